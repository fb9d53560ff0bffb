/-
  A strip along a side, and a strip without width, as the program tells them. The law for a statement that draws its order, where an edge that binds no order may point forward.
-/
import Derived.Test.YtdcecfgmfmpeeaaZarq
import Derived.Test.YtdcecfgmfmpeeaaLeavesq
namespace Go.Proofs.Ytdcecfgmfmpeeaa
open Go.ChangeShapes Go.WideShapes Go.ChangeAt Go.RowKit
set_option linter.unusedVariables false
set_option linter.unusedSimpArgs false
def zoV (z : Zo) : Value := .agg #[.int .i64 z.A, .int .i64 z.B, .int .i64 z.C, .int .i64 z.N, .int .i64 z.D]
def cb (w : World) (g t : Nat) (vs : List Value) : Prop := w.heap[g]? = some (.cells vs.toArray t (0, 0))
theorem cb.cell {w : World} {g t : Nat} {vs : List Value} (h : cb w g t vs) {m : Nat} {x : Value} (hx : vs[m]? = some x) : w.cell? ⟨g, m, none⟩ = some x := by
 simp only [World.cell?]
 rw [h]
 simp [hx]
theorem cb.lt {w : World} {g t : Nat} {vs : List Value} (h : cb w g t vs) : g < w.heap.size := (Array.getElem?_eq_some_iff.1 h).1
theorem cb.frozen {w : World} {g t : Nat} {vs : List Value} (h : cb w g t vs) (o : Nat) : w.frozen? ⟨g, o, none⟩ = false := by
 simp only [World.frozen?]
 rw [h]
 simp
theorem cb.bel {w w' : World} {g t : Nat} {vs : List Value} (h : cb w g t vs) (hb : Below w.heap.size w w') : cb w' g t vs := (hb.block g h.lt).trans h
theorem cb.set {w : World} {g t : Nat} {vs : List Value} (h : cb w g t vs) (m : Nat) (x : Value) : cb (w.setCell ⟨g, m, none⟩ x) g t (vs.set m x) := by
 show (w.heap.modify g _)[g]? = _
 rw [Array.getElem?_modify, if_pos rfl, h]
 simp
theorem cb.ne {w : World} {g g' o t : Nat} {vs : List Value} {x : Value} (h : cb w g t vs) (hg : g ≠ g') : cb (w.setCell ⟨g', o, none⟩ x) g t vs := (Below.heap_setCell _ _ _ _ hg).trans h
theorem cb_new (W : World) (t : Nat) (vs : List Value) (g : Nat) (hg : g = W.heap.size) : cb (W.alloc (.cells vs.toArray t)) g t vs := by
 subst hg
 show (W.heap.push _)[W.heap.size]? = _
 rw [Array.getElem?_push_size]
theorem cb_new1 (W : World) (t : Nat) (vs : List Value) (o : Obj) : cb ((W.alloc (.cells vs.toArray t)).alloc o) W.heap.size t vs := (cb_new W t vs _ rfl).bel (ba (Below.refl _ _) _)
theorem cb_new2 (W : World) (t : Nat) (vs : List Value) (o : Obj) : cb ((W.alloc o).alloc (.cells vs.toArray t)) (W.heap.size + 1) t vs := cb_new _ t vs _ (by simp)
def z5 : List Value := [.int .i64 0, .int .i64 0, .int .i64 0, .int .i64 0, .int .i64 0]
theorem cb.zero {w : World} {g t : Nat} (h : cb w g t z5) : ∀ o, o < 5 → w.cell? ⟨g, o, none⟩ = some (.int .i64 0) := by
 intro o ho
 refine h.cell ?_
 have h5 : o = 0 ∨ o = 1 ∨ o = 2 ∨ o = 3 ∨ o = 4 := by omega
 rcases h5 with rfl | rfl | rfl | rfl | rfl <;> rfl
theorem near_ok {p : Pt} (h : -200 ≤ p.1 ∧ p.1 ≤ 200 ∧ -200 ≤ p.2 ∧ p.2 ≤ 200) : ptOk p = true := by
 unfold ptOk
 rw [decide_eq_true_iff]
 omega
theorem sub_bel (a1 a2 b1 b2 : Int) (w : World) (ha : ptOk (a1, a2) = true) (hb : ptOk (b1, b2) = true) :
  Calls Try.prog 52 #[.agg #[.int .i64 a1, .int .i64 a2], .agg #[.int .i64 b1, .int .i64 b2]] w fun e w' => e = .returned (.agg #[.int .i64 (a1 - b1), .int .i64 (a2 - b2)]) ∧ Below w.heap.size w w' := by
 refine (sub_exact a1 a2 b1 b2 w ha hb).mono ?_
 rintro e w' ⟨rfl, rfl⟩
 exact ⟨rfl, ba (ba (ba (Below.refl _ _) _) _) _⟩
theorem acr_bel (a1 a2 b1 b2 : Int) (w : World) (ha : (-200000 ≤ a1 ∧ a1 ≤ 200000) ∧ -200000 ≤ a2 ∧ a2 ≤ 200000) (hb : (-200000 ≤ b1 ∧ b1 ≤ 200000) ∧ -200000 ≤ b2 ∧ b2 ≤ 200000) :
  Calls Try.prog 55 #[.agg #[.int .i64 a1, .int .i64 a2], .agg #[.int .i64 b1, .int .i64 b2]] w fun e w' => e = .returned (.int .i64 (a1 * b2 - a2 * b1)) ∧ Below w.heap.size w w' := by
 refine (acr_exact a1 a2 b1 b2 w ha hb).mono ?_
 rintro e w' ⟨rfl, rfl⟩
 exact ⟨rfl, ba (ba (Below.refl _ _) _) _⟩
theorem sq_way (a1 a2 c1 c2 : Int) : (c1 - a1) * (c1 - a1) + (c2 - a2) * (c2 - a2) = sqd (a1, a2) (c1, c2) := by
 unfold sqd
 simp only
 have e1 : (c1 - a1) * (c1 - a1) = (a1 - c1) * (a1 - c1) := by rw [show c1 - a1 = -(a1 - c1) by omega, Int.neg_mul_neg]
 have e2 : (c2 - a2) * (c2 - a2) = (a2 - c2) * (a2 - c2) := by rw [show c2 - a2 = -(a2 - c2) by omega, Int.neg_mul_neg]
 rw [e1, e2]
set_option maxHeartbeats 4000000 in
set_option maxRecDepth 100000 in
theorem zaP_any (b cap n : Nat) (L : List Pt) (a1 a2 c1 c2 : Int) (w : World) (hL : L.length = n) (hn1 : 1 ≤ n) (hn : n ≤ 200) (hN : Near L) (ha : (a1, a2) ∈ L) (hc : (c1, c2) ∈ L) (hs : ∀ q ∈ L, 0 ≤ side (a1, a2) (c1, c2) q) (hb : b < w.heap.size) (hI : IntsAt w b 0 (flat2 L)) :
  Calls Try.prog 24 #[.slice (some ⟨b, 0, none⟩) n cap, .agg #[.int .i64 a1, .int .i64 a2, .int .i64 c1, .int .i64 c2]] w fun e w' => e = .returned (zoV (zn L (a1, a2) (c1, c2))) ∧ Below w.heap.size w w' := by
 have ra := hN _ ha
 have rc := hN _ hc
 simp only at ra rc
 have oa := near_ok (hN _ ha)
 have oc := near_ok (hN _ hc)
 have HFA := hide (fi_fst ha)
 have HFC := hide (fi_fst hc)
 have HB0 := hide (ba (ba (Below.refl w.heap.size w) (.cells #[.int .i64 a1, .int .i64 a2, .int .i64 c1, .int .i64 c2] 54)) (.cells #[.int .i64 0, .int .i64 0, .int .i64 0, .int .i64 0, .int .i64 0] 26))
 have H3 := hide (cb_new1 w 54 [.int .i64 a1, .int .i64 a2, .int .i64 c1, .int .i64 c2] (.cells #[.int .i64 0, .int .i64 0, .int .i64 0, .int .i64 0, .int .i64 0] 26))
 have H4 : Hid (cb ((w.alloc (.cells #[.int .i64 a1, .int .i64 a2, .int .i64 c1, .int .i64 c2] 54)).alloc (.cells #[.int .i64 0, .int .i64 0, .int .i64 0, .int .i64 0, .int .i64 0] 26)) (w.heap.size + 1) 26 z5) := hide (cb_new2 w 26 z5 (.cells #[.int .i64 a1, .int .i64 a2, .int .i64 c1, .int .i64 c2] 54))
 have HL := hide hL
 have HI := hide hI
 have HQ2 : Hid (frP (fun k => side (a1, a2) (c1, c2) (ptAt L k)) n = (frM (fun k => side (a1, a2) (c1, c2) (ptAt L k)) n, side (a1, a2) (c1, c2) (ptAt L (frM (fun k => side (a1, a2) (c1, c2) (ptAt L k)) n)))) := hide (fr_eq (n := n) (fun k hk => hs _ (List.mem_of_getElem? (ptAt_some (by omega)))) n hn1 (Nat.le_refl _))
 have HMO : Hid (∀ k, k < n → -320000 ≤ side (a1, a2) (c1, c2) (ptAt L k) ∧ side (a1, a2) (c1, c2) (ptAt L k) ≤ 320000) := hide (fun k hk => side_bd (hN _ ha) (hN _ hc) (hN _ (List.mem_of_getElem? (ptAt_some (by omega)))))
 have HFL : Hid (frM (fun k => side (a1, a2) (c1, c2) (ptAt L k)) n < n) := hide (frM_lt _ hn1 n (Nat.le_refl _))
 have HNR : Hid (∀ k, k < n → -200 ≤ (ptAt L k).1 ∧ (ptAt L k).1 ≤ 200 ∧ -200 ≤ (ptAt L k).2 ∧ (ptAt L k).2 ≤ 200) := hide (fun k hk => hN _ (List.mem_of_getElem? (ptAt_some (by omega))))
 have HPS : Hid (∀ k, (frP (fun k => side (a1, a2) (c1, c2) (ptAt L k)) (k + 1)) = if (frP (fun k => side (a1, a2) (c1, c2) (ptAt L k)) k).2 < side (a1, a2) (c1, c2) (ptAt L k) then (k, side (a1, a2) (c1, c2) (ptAt L k)) else frP (fun k => side (a1, a2) (c1, c2) (ptAt L k)) k) := hide (fun k => rfl)
 have HP0 : Hid (frP (fun k => side (a1, a2) (c1, c2) (ptAt L k)) 0 = (0, 0)) := hide rfl
 have HZE : Hid (zn L (a1, a2) (c1, c2) = ⟨fi L (a1, a2), fi L (c1, c2), frM (fun k => side (a1, a2) (c1, c2) (ptAt L k)) n, side (a1, a2) (c1, c2) (ptAt L (frM (fun k => side (a1, a2) (c1, c2) (ptAt L k)) n)) * side (a1, a2) (c1, c2) (ptAt L (frM (fun k => side (a1, a2) (c1, c2) (ptAt L k)) n)), sqd (a1, a2) (c1, c2)⟩) := hide (by unfold zn; rw [hL])
 have HSD : Hid (∀ k, side (a1, a2) (c1, c2) (ptAt L k) = (c1 - a1) * ((ptAt L k).2 - a2) - (c2 - a2) * ((ptAt L k).1 - a1)) := hide (fun k => rfl)
 obtain ⟨FR, hFR⟩ : ∃ FR, frP (fun k => side (a1, a2) (c1, c2) (ptAt L k)) = FR := ⟨_, rfl⟩
 obtain ⟨FM, hFM⟩ : ∃ FM, frM (fun k => side (a1, a2) (c1, c2) (ptAt L k)) n = FM := ⟨_, rfl⟩
 rw [hFM] at HQ2 HFL HZE
 rw [hFR] at HQ2 HP0
 simp only [hFR] at HPS
 obtain ⟨SD, hSD⟩ : ∃ SD : Nat → Int, (fun k => side (a1, a2) (c1, c2) (ptAt L k)) = SD := ⟨_, rfl⟩
 have hSD' : ∀ k, side (a1, a2) (c1, c2) (ptAt L k) = SD k := fun k => by rw [← hSD]
 simp only [hSD'] at HQ2 HMO HPS HZE HSD
 clear hFR hFM hSD hSD' hL hs hI ha hc hN
 go_enter Try.func24, Try.ntmps24
 go_wp2_with fail
 generalize (w.alloc (.cells #[.int .i64 a1, .int .i64 a2, .int .i64 c1, .int .i64 c2] 54)).alloc (.cells #[.int .i64 0, .int .i64 0, .int .i64 0, .int .i64 0, .int .i64 0] 26) = W0 at *
 have k0 := (zu H3).cell (m := 0) rfl
 have k1 := (zu H3).cell (m := 1) rfl
 have k2 := (zu H3).cell (m := 2) rfl
 have k3 := (zu H3).cell (m := 3) rfl
 try go_wp2_with fail
 refine (sub_bel c1 c2 a1 a2 W0 oc oa).mono ?_
 rintro e W1 ⟨rfl, hb1⟩
 have hA : Below W1.heap.size W1 (W1.alloc (.cells #[.int .i64 (c1 - a1), .int .i64 (c2 - a2)] 30)) := ba (Below.refl _ _) _
 have hbA := bc hb1 hA
 have H3b := hide ((zu H3).bel hbA)
 have H4b := hide ((zu H4).bel hbA)
 have H5 := hide (cb_new W1 30 [.int .i64 (c1 - a1), .int .i64 (c2 - a2)] W1.heap.size rfl)
 have HB1 := hide (bc (zu HB0) hbA)
 have HI1 := hide ((zu HI).below (zu HB1) hb)
 have hbl : b < (W1.alloc (.cells #[.int .i64 (c1 - a1), .int .i64 (c2 - a2)] 30)).heap.size := Nat.lt_of_lt_of_le hb (zu HB1).size
 clear hb1 hA hbA k0 k1 k2 k3 H3 H4 HB0 HI
 go_upto_region 2 with fail
 generalize W1.alloc (.cells #[.int .i64 (c1 - a1), .int .i64 (c2 - a2)] 30) = W2 at *
 generalize W1.heap.size = b5 at *
 go_wp2_with fail
 go_loopw [6, 7, 18] (fun z6 z7 z X => ∃ k : Nat, z = .int .i64 (k : Int) ∧ k ≤ n ∧ z6 = .int .i64 ((FR k).1 : Int) ∧ z7 = .int .i64 (FR k).2 ∧ Below W2.heap.size W2 X) (fun _ _ z _ => n - (intOf z).toNat)
 case atStart => exact ⟨0, rfl, Nat.zero_le _, by rw [zu HP0]; rfl, by rw [zu HP0], Below.refl _ _⟩
 case round =>
  obtain ⟨k, rfl, hk, rfl, rfl, hw⟩ := hrel
  have HW := hide hw
  have v3 := (zu H3b).bel hw
  have v5 := (zu H5).bel hw
  by_cases h : k < n
  ·have i1 : (k : Int) < (n : Int) := by omega
   have i0 : (0 : Int) ≤ (k : Int) := Int.natCast_nonneg _
   have iz : decide ((k : Int) < (n : Int)) = true := decide_eq_true i1
   have hx := ptAt_some (L := L) (i := k) (by rw [zu HL]; exact h)
   have hnr := zu HNR k h
   have hsd := zu HSD k
   have hps := zu HPS k
   obtain ⟨⟨x, y⟩, hxy⟩ : ∃ q, ptAt L k = q := ⟨_, rfl⟩
   rw [hxy] at hx hnr hsd
   simp only at hnr hsd
   obtain ⟨c0, c1'⟩ := pts_at ((zu HI1).below hw hbl) hx
   have ox : ptOk (x, y) = true := near_ok (p := (x, y)) hnr
   have HA1 := hide (fun X => sub_bel x y a1 a2 X ox oa)
   have HA2 := hide (fun X => acr_bel (c1 - a1) (c2 - a2) (x - a1) (y - a2) X (by omega) (by omega))
   rw [← hsd] at HA2
   have HPK := hide hps
   generalize SD k = sd at *
   have HXW : Hid (Below wr.heap.size wr (wr.alloc (.cells #[.int .i64 x, .int .i64 y] 30))) := hide (ba (Below.refl _ _) _)
   have V3 := hide (v3.bel (zu HXW))
   have V5 := hide (v5.bel (zu HXW))
   have V9 := hide (cb_new wr 30 [.int .i64 x, .int .i64 y] wr.heap.size rfl)
   have HWX := hide (bc hw (zu HXW))
   clear hx hxy hnr hsd hps v3 v5 hw HW
   go_wp2_with fail
   generalize wr.alloc (.cells #[.int .i64 x, .int .i64 y] 30) = Wx at *
   generalize wr.heap.size = b9 at *
   have e0 := (zu V3).cell (m := 0) rfl
   have e1 := (zu V3).cell (m := 1) rfl
   have w0 := (zu V5).cell (m := 0) rfl
   have w1 := (zu V5).cell (m := 1) rfl
   have n0 := (zu V9).cell (m := 0) rfl
   have n1 := (zu V9).cell (m := 1) rfl
   clear c0 c1'
   go_region_held3 (fun wx => wx.cell? ⟨w.heap.size, 0, none⟩ = some (.int .i64 a1) ∧ wx.cell? ⟨w.heap.size, 1, none⟩ = some (.int .i64 a2) ∧ wx.cell? ⟨b5, 0, none⟩ = some (.int .i64 (c1 - a1)) ∧ wx.cell? ⟨b5, 1, none⟩ = some (.int .i64 (c2 - a2)) ∧ wx.cell? ⟨b9, 0, none⟩ = some (.int .i64 x) ∧ wx.cell? ⟨b9, 1, none⟩ = some (.int .i64 y))
    (simp (maxDischargeDepth := 12) [go_sem, le1, lt1, *])
    (first
    | (go_at_call 52; with_reducible refine (zu HA1 _).mono ?_; rintro e w' ⟨rfl, hb'⟩; have HBx := hide (show Below Wx.heap.size Wx w' from bc (by repeat (first | exact Below.refl _ _ | refine Below.drew ?_)) hb'); have p0 := keep1 hb' (b := w.heap.size) (o := 0) (v := .int .i64 a1) (by simp (maxDischargeDepth := 12) [go_sem, le1, lt1, *]); have p1 := keep1 hb' (b := w.heap.size) (o := 1) (v := .int .i64 a2) (by simp (maxDischargeDepth := 12) [go_sem, le1, lt1, *]); have p2 := keep1 hb' (b := b5) (o := 0) (v := .int .i64 (c1 - a1)) (by simp (maxDischargeDepth := 12) [go_sem, le1, lt1, *]); have p3 := keep1 hb' (b := b5) (o := 1) (v := .int .i64 (c2 - a2)) (by simp (maxDischargeDepth := 12) [go_sem, le1, lt1, *]); have p4 := keep1 hb' (b := b9) (o := 0) (v := .int .i64 x) (by simp (maxDischargeDepth := 12) [go_sem, le1, lt1, *]); have p5 := keep1 hb' (b := b9) (o := 1) (v := .int .i64 y) (by simp (maxDischargeDepth := 12) [go_sem, le1, lt1, *]); clear hb')
    | (go_at_call 55; with_reducible refine (zu HA2 _).mono ?_; rintro e w' ⟨rfl, hb'⟩; have HBy := hide (show Below Wx.heap.size Wx w' from bc (by repeat (first | exact zu HBx | refine Below.drew ?_)) hb'); have q0 := keep1 hb' (b := w.heap.size) (o := 0) (v := .int .i64 a1) (by simp (maxDischargeDepth := 12) [go_sem, le1, lt1, *]); have q1 := keep1 hb' (b := w.heap.size) (o := 1) (v := .int .i64 a2) (by simp (maxDischargeDepth := 12) [go_sem, le1, lt1, *]); have q2 := keep1 hb' (b := b5) (o := 0) (v := .int .i64 (c1 - a1)) (by simp (maxDischargeDepth := 12) [go_sem, le1, lt1, *]); have q3 := keep1 hb' (b := b5) (o := 1) (v := .int .i64 (c2 - a2)) (by simp (maxDischargeDepth := 12) [go_sem, le1, lt1, *]); have q4 := keep1 hb' (b := b9) (o := 0) (v := .int .i64 x) (by simp (maxDischargeDepth := 12) [go_sem, le1, lt1, *]); have q5 := keep1 hb' (b := b9) (o := 1) (v := .int .i64 y) (by simp (maxDischargeDepth := 12) [go_sem, le1, lt1, *]); clear hb'))
   all_goals
    have HWY := hide (bc (zu HWX) (zu HBy))
    by_cases hlt : (FR k).2 < sd
    ·have dl : decide ((FR k).2 < sd) = true := decide_eq_true hlt
     go_wp2_with fail
     go_roundw
     case rel => exact ⟨k + 1, by simp, h, by rw [zu HPK, if_pos hlt], by rw [zu HPK, if_pos hlt], by repeat (first | exact zu HWY | refine Below.drew ?_)⟩
     case measure => simp only [intOf]; omega
    ·have dl : decide ((FR k).2 < sd) = false := decide_eq_false hlt
     go_wp2_with fail
     go_roundw
     case rel => exact ⟨k + 1, by simp, h, by rw [zu HPK, if_neg hlt], by rw [zu HPK, if_neg hlt], by repeat (first | exact zu HWY | refine Below.drew ?_)⟩
     case measure => simp only [intOf]; omega
  ·have iz : decide ((k : Int) < (n : Int)) = false := decide_eq_false (by omega)
   obtain rfl : n = k := by omega
   have v4 := (zu H4b).bel hw
   have hq2 := zu HQ2
   have hmo := zu HMO FM (zu HFL)
   rw [hq2]
   simp only
   generalize SD FM = mo at *
   have hmm := mulB (x := mo) (y := mo) (a := 320000) (b := 320000) (by omega) (by omega) (by omega) (by omega)
   have HB4 := hide (bc (zu HB1) hw)
   have HIx := hide ((zu HI1).below hw hbl)
   have hbx : b < wr.heap.size := Nat.lt_of_lt_of_le hbl hw.size
   have H3x := hide v3
   have H4x := hide v4
   have H5x := hide v5
   have hb4w : w.heap.size + 1 < wr.heap.size := v4.lt
   clear hq2 hw v3 v4 v5 HW
   go_wp2_with fail
   refine Go.Code.wp_mono (Only.to (fun _ _ h => h)) (za10 (ja := fi L (a1, a2)) (jb := fi L (c1, c2)) (dd := sqd (a1, a2) (c1, c2)) (a1 := a1) (a2 := a2) (c1 := c1) (c2 := c2) (w1 := c1 - a1) (w2 := c2 - a2) hb4w (hide ((zu H3x).cell (m := 0) rfl)) (hide ((zu H3x).cell (m := 1) rfl)) (hide ((zu H3x).cell (m := 2) rfl)) (hide ((zu H3x).cell (m := 3) rfl)) (hide ((zu H5x).cell (m := 0) rfl)) (hide ((zu H5x).cell (m := 1) rfl)) (hide (zu H4x).zero) (hide (zu H4x).frozen) (hide (wr64 (by omega) (by omega)))
    (hide fun X hX => idxP_any b cap n L a1 a2 _ X HL (by omega) (Nat.lt_of_lt_of_le hbx hX.size) (hide ((zu HIx).below hX hbx)) HFA)
    (hide fun X hX => idxP_any b cap n L c1 c2 _ X HL (by omega) (Nat.lt_of_lt_of_le hbx hX.size) (hide ((zu HIx).below hX hbx)) HFC)
    (hide fun X hX => by rw [← sq_way a1 a2 c1 c2]; exact aloP_any _ _ _ _ X (by omega) (by omega)) (fun W9 hW9 => ?_))
   have V4 := hide ((((((zu H4x).bel hW9).set 0 (.int .i64 (fi L (a1, a2) : Int))).set 1 (.int .i64 (fi L (c1, c2) : Int))).set 2 (.int .i64 (FM : Int))).set 3 (.int .i64 (mo * mo)) |>.set 4 (.int .i64 (sqd (a1, a2) (c1, c2))))
   have HB9 := hide (bc (zu HB4) hW9)
   clear hW9
   have s0 := (zu V4).cell (m := 0) rfl
   have s1 := (zu V4).cell (m := 1) rfl
   have s2 := (zu V4).cell (m := 2) rfl
   have s3 := (zu V4).cell (m := 3) rfl
   have s4 := (zu V4).cell (m := 4) rfl
   go_wp2_with fail
   refine bodyPost_ret (v := .agg #[.int .i64 (fi L (a1, a2) : Int), .int .i64 (fi L (c1, c2) : Int), .int .i64 (FM : Int), .int .i64 (mo * mo), .int .i64 (sqd (a1, a2) (c1, c2))]) (by simp [results, Try.results24, go_sem, s0, s1, s2, s3, s4]) rfl ⟨by rw [zu HZE]; rfl, ?_⟩
   exact Below.setCell (Below.setCell (Below.setCell (Below.setCell (Below.setCell (zu HB9) (by simp) _) (by simp) _) (by simp) _) (by simp) _) (by simp) _
def forward2 (ops : Array Oper) : Bool := (List.range ops.size).all fun i => ((ops[i]?).map (·.after.all fun e => !Region.binds .any e || decide (e.on < i))).getD true
section
variable {P : Program} {ops : Array Oper} {Q : Exit → Act → World → Prop} {I : Array Bool → Act → World → Prop}
theorem wpAny_inv2 (hfw : forward2 ops = true)
  (hstep : ∀ listed a w, I listed a w → RSteps P ops Q I listed a w 0 ops.toList)
  (hend : ∀ listed a w, I listed a w → listed = Array.replicate ops.size true → Q .normal a w) :
  ∀ (n : Nat) (listed : Array Bool) (a : Act) (w : World), listed.size = ops.size → listed.toList.count false ≤ n → I listed a w → wpAny P .any ops Q n listed a w := by
 have alltrue : ∀ listed : Array Bool, listed.size = ops.size → (∀ i, i < ops.size → listed.getD i true = true) → listed = Array.replicate ops.size true := by
  intro listed hs h
  apply Array.ext
  ·simp [hs]
  ·intro i h1 h2
   have := h i (by omega)
   simp [h1] at this
   simp [this]
 have fin : ∀ listed : Array Bool, listed.size = ops.size → Region.ready .any ops listed = [] → listed = Array.replicate ops.size true := by
  intro listed hs hr
  refine alltrue listed hs ?_
  intro i
  induction i using Nat.strongRecOn with
  | _ i ih =>
   intro hi
   cases hl : listed.getD i true with
   | true => rfl
   | false =>
    have : i ∈ Region.ready .any ops listed := by
     rw [mem_ready]
     refine ⟨hl, ops[i], Array.getElem?_eq_getElem hi, fun e he hb => ?_⟩
     have hlt : e.on < i := by
      have h1 := hfw
      unfold forward2 at h1
      rw [List.all_eq_true] at h1
      have h2 := h1 i (by simpa using hi)
      rw [Array.getElem?_eq_getElem hi] at h2
      simp only [Option.map_some, Option.getD_some, Array.all_eq_true_iff_forall_mem] at h2
      have h3 := h2 e he
      rw [hb] at h3
      simpa using h3
     have h3 := ih e.on hlt (by omega)
     have : e.on < listed.size := by omega
     simp [this] at h3 ⊢
     exact h3
    rw [hr] at this
    cases this
 intro n
 induction n with
 | zero =>
  intro listed a w hs hc hI
  have e : listed = Array.replicate ops.size true := by
   refine alltrue listed hs fun i hi => ?_
   have := count_none (l := listed.toList) (by omega) (i := i) (by simp; omega)
   rw [Array.getElem?_toList] at this
   simp [this]
  refine ⟨?_, hend _ _ _ hI e⟩
  rw [e]
  apply List.eq_nil_iff_forall_not_mem.2
  intro i hi
  rw [mem_ready] at hi
  obtain ⟨h0, o, ho, _⟩ := hi
  have : i < ops.size := (Array.getElem?_eq_some_iff.1 ho).1
  simp [this] at h0
 | succ n ih =>
  intro listed a w hs hc hI
  refine ⟨fun hr => hend _ _ _ hI (fin listed hs hr), fun i hi => ?_⟩
  obtain ⟨h0, o, ho, hall⟩ := mem_ready.1 hi
  have hlt : i < listed.size := by
   have := (Array.getElem?_eq_some_iff.1 ho).1
   omega
  have hst := RSteps.at ops.toList 0 i o (hstep _ _ _ hI) (by rw [Array.getElem?_toList]; exact ho) (by rw [Nat.zero_add]; exact h0) (by
   rw [Array.all_eq_true_iff_forall_mem]
   intro e he
   cases hb : Region.binds .any e
   ·rfl
   ·rw [hall e he hb]; rfl)
  rw [Nat.zero_add] at hst
  refine wpOp_step ho (fun K' hK => hst K' (fun a' w' h => hK a' w' (ih _ a' w' (by simpa using hs) ?_ h)))
  rw [Array.toList_setIfInBounds]
  have := count_set listed.toList i (by
   rw [Array.getElem?_toList]
   simp [hlt] at h0 ⊢
   exact h0)
  omega
theorem wp_region_inv2 {id : Nat} {a : Act} {w : World} (I : Array Bool → Act → World → Prop) (hm : P.follows .mixedOrders = true) (hfw : forward2 ops = true)
  (h0 : I (Array.replicate ops.size false) a w.drew)
  (hstep : ∀ listed a w, I listed a w → RSteps P ops Q I listed a w 0 ops.toList)
  (hend : ∀ listed a w, I listed a w → listed = Array.replicate ops.size true → Q .normal a w) : (Code.region id ops true).wp P Q a w := by
 refine wp_region_any hm (wpAny_inv2 hfw hstep hend _ _ _ _ (by simp) ?_ h0)
 simp
end
theorem zf {p : Prop} (h : false = true) : p := nomatch h
theorem zt {p : Prop} (h : true = false) : p := nomatch h
theorem znb {b : Bool} (h : b = true → false = true) : b = false := by
 cases b with
 | false => rfl
 | true => exact nomatch h rfl
end Go.Proofs.Ytdcecfgmfmpeeaa
