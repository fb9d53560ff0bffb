/-
  A strip along a side, and a strip without width, as the program tells them.
-/
import Derived.Test.YtdcecfgmfmpeeaaZar
namespace Go.Proofs.Ytdcecfgmfmpeeaa
open Go.ChangeShapes Go.WideShapes Go.ChangeAt Go.RowKit
set_option linter.unusedVariables false
set_option linter.unusedSimpArgs false

def zoV (z : Zo) : Value := .agg #[.int .i64 z.A, .int .i64 z.B, .int .i64 z.C, .int .i64 z.N, .int .i64 z.D]
/-- what holds of a world's block -/
def cb (w : World) (g t : Nat) (vs : List Value) : Prop := w.heap[g]? = some (.cells vs.toArray t (0, 0))
theorem cb.cell {w : World} {g t : Nat} {vs : List Value} (h : cb w g t vs) {m : Nat} {x : Value} (hx : vs[m]? = some x) : w.cell? ⟨g, m, none⟩ = some x := by
  simp only [World.cell?]
  rw [h]
  simp [hx]
theorem cb.lt {w : World} {g t : Nat} {vs : List Value} (h : cb w g t vs) : g < w.heap.size := (Array.getElem?_eq_some_iff.1 h).1
theorem cb.frozen {w : World} {g t : Nat} {vs : List Value} (h : cb w g t vs) (o : Nat) : w.frozen? ⟨g, o, none⟩ = false := by
  simp only [World.frozen?]
  rw [h]
  simp
theorem cb.bel {w w' : World} {g t : Nat} {vs : List Value} (h : cb w g t vs) (hb : Below w.heap.size w w') : cb w' g t vs := (hb.block g h.lt).trans h
theorem cb.set {w : World} {g t : Nat} {vs : List Value} (h : cb w g t vs) (m : Nat) (x : Value) : cb (w.setCell ⟨g, m, none⟩ x) g t (vs.set m x) := by
  show (w.heap.modify g _)[g]? = _
  rw [Array.getElem?_modify, if_pos rfl, h]
  simp
theorem cb.ne {w : World} {g g' o t : Nat} {vs : List Value} {x : Value} (h : cb w g t vs) (hg : g ≠ g') : cb (w.setCell ⟨g', o, none⟩ x) g t vs := (Below.heap_setCell _ _ _ _ hg).trans h
theorem cb_new (W : World) (t : Nat) (vs : List Value) (g : Nat) (hg : g = W.heap.size) : cb (W.alloc (.cells vs.toArray t)) g t vs := by
  subst hg
  show (W.heap.push _)[W.heap.size]? = _
  rw [Array.getElem?_push_size]
theorem cb_new1 (W : World) (t : Nat) (vs : List Value) (o : Obj) : cb ((W.alloc (.cells vs.toArray t)).alloc o) W.heap.size t vs := (cb_new W t vs _ rfl).bel (ba (Below.refl _ _) _)
theorem cb_new2 (W : World) (t : Nat) (vs : List Value) (o : Obj) : cb ((W.alloc o).alloc (.cells vs.toArray t)) (W.heap.size + 1) t vs := cb_new _ t vs _ (by simp)
def z5 : List Value := [.int .i64 0, .int .i64 0, .int .i64 0, .int .i64 0, .int .i64 0]
theorem cb.zero {w : World} {g t : Nat} (h : cb w g t z5) : ∀ o, o < 5 → w.cell? ⟨g, o, none⟩ = some (.int .i64 0) := by
  intro o ho
  refine h.cell ?_
  have h5 : o = 0 ∨ o = 1 ∨ o = 2 ∨ o = 3 ∨ o = 4 := by omega
  rcases h5 with rfl | rfl | rfl | rfl | rfl <;> rfl
theorem near_ok {p : Pt} (h : -200 ≤ p.1 ∧ p.1 ≤ 200 ∧ -200 ≤ p.2 ∧ p.2 ≤ 200) : ptOk p = true := by
  unfold ptOk
  rw [decide_eq_true_iff]
  omega
theorem sub_bel (a1 a2 b1 b2 : Int) (w : World) (ha : ptOk (a1, a2) = true) (hb : ptOk (b1, b2) = true) :
    Calls Try.prog 52 #[.agg #[.int .i64 a1, .int .i64 a2], .agg #[.int .i64 b1, .int .i64 b2]] w fun e w' => e = .returned (.agg #[.int .i64 (a1 - b1), .int .i64 (a2 - b2)]) ∧ Below w.heap.size w w' := by
  refine (sub_exact a1 a2 b1 b2 w ha hb).mono ?_
  rintro e w' ⟨rfl, rfl⟩
  exact ⟨rfl, ba (ba (ba (Below.refl _ _) _) _) _⟩
theorem acr_bel (a1 a2 b1 b2 : Int) (w : World) (ha : (-200000 ≤ a1 ∧ a1 ≤ 200000) ∧ -200000 ≤ a2 ∧ a2 ≤ 200000) (hb : (-200000 ≤ b1 ∧ b1 ≤ 200000) ∧ -200000 ≤ b2 ∧ b2 ≤ 200000) :
    Calls Try.prog 55 #[.agg #[.int .i64 a1, .int .i64 a2], .agg #[.int .i64 b1, .int .i64 b2]] w fun e w' => e = .returned (.int .i64 (a1 * b2 - a2 * b1)) ∧ Below w.heap.size w w' := by
  refine (acr_exact a1 a2 b1 b2 w ha hb).mono ?_
  rintro e w' ⟨rfl, rfl⟩
  exact ⟨rfl, ba (ba (Below.refl _ _) _) _⟩
theorem sq_way (a1 a2 c1 c2 : Int) : (c1 - a1) * (c1 - a1) + (c2 - a2) * (c2 - a2) = sqd (a1, a2) (c1, c2) := by
  unfold sqd
  simp only
  have e1 : (c1 - a1) * (c1 - a1) = (a1 - c1) * (a1 - c1) := by rw [show c1 - a1 = -(a1 - c1) by omega, Int.neg_mul_neg]
  have e2 : (c2 - a2) * (c2 - a2) = (a2 - c2) * (a2 - c2) := by rw [show c2 - a2 = -(a2 - c2) by omega, Int.neg_mul_neg]
  rw [e1, e2]
set_option maxHeartbeats 4000000 in
set_option maxRecDepth 100000 in
theorem zaP_any (b cap n : Nat) (L : List Pt) (a1 a2 c1 c2 : Int) (w : World) (hL : L.length = n) (hn1 : 1 ≤ n) (hn : n ≤ 200) (hN : Near L) (ha : (a1, a2) ∈ L) (hc : (c1, c2) ∈ L) (hs : ∀ q ∈ L, 0 ≤ side (a1, a2) (c1, c2) q) (hb : b < w.heap.size) (hI : IntsAt w b 0 (flat2 L)) :
    Calls Try.prog 24 #[.slice (some ⟨b, 0, none⟩) n cap, .agg #[.int .i64 a1, .int .i64 a2, .int .i64 c1, .int .i64 c2]] w fun e w' => e = .returned (zoV (zn L (a1, a2) (c1, c2))) ∧ Below w.heap.size w w' := by
  have ra := hN _ ha
  have rc := hN _ hc
  simp only at ra rc
  have oa := near_ok (hN _ ha)
  have oc := near_ok (hN _ hc)
  have HFA := hide (fi_fst ha)
  have HFC := hide (fi_fst hc)
  have HB0 := hide (ba (ba (Below.refl w.heap.size w) (.cells #[.int .i64 a1, .int .i64 a2, .int .i64 c1, .int .i64 c2] 54)) (.cells #[.int .i64 0, .int .i64 0, .int .i64 0, .int .i64 0, .int .i64 0] 26))
  have H3 := hide (cb_new1 w 54 [.int .i64 a1, .int .i64 a2, .int .i64 c1, .int .i64 c2] (.cells #[.int .i64 0, .int .i64 0, .int .i64 0, .int .i64 0, .int .i64 0] 26))
  have H4 : Hid (cb ((w.alloc (.cells #[.int .i64 a1, .int .i64 a2, .int .i64 c1, .int .i64 c2] 54)).alloc (.cells #[.int .i64 0, .int .i64 0, .int .i64 0, .int .i64 0, .int .i64 0] 26)) (w.heap.size + 1) 26 z5) := hide (cb_new2 w 26 z5 (.cells #[.int .i64 a1, .int .i64 a2, .int .i64 c1, .int .i64 c2] 54))
  have HL := hide hL
  have HI := hide hI
  have HQ2 : Hid (frP (fun k => side (a1, a2) (c1, c2) (ptAt L k)) n = (frM (fun k => side (a1, a2) (c1, c2) (ptAt L k)) n, side (a1, a2) (c1, c2) (ptAt L (frM (fun k => side (a1, a2) (c1, c2) (ptAt L k)) n)))) := hide (fr_eq (n := n) (fun k hk => hs _ (List.mem_of_getElem? (ptAt_some (by omega)))) n hn1 (Nat.le_refl _))
  have HMO : Hid (∀ k, k < n → -320000 ≤ side (a1, a2) (c1, c2) (ptAt L k) ∧ side (a1, a2) (c1, c2) (ptAt L k) ≤ 320000) := hide (fun k hk => side_bd (hN _ ha) (hN _ hc) (hN _ (List.mem_of_getElem? (ptAt_some (by omega)))))
  have HFL : Hid (frM (fun k => side (a1, a2) (c1, c2) (ptAt L k)) n < n) := hide (frM_lt _ hn1 n (Nat.le_refl _))
  have HNR : Hid (∀ k, k < n → -200 ≤ (ptAt L k).1 ∧ (ptAt L k).1 ≤ 200 ∧ -200 ≤ (ptAt L k).2 ∧ (ptAt L k).2 ≤ 200) := hide (fun k hk => hN _ (List.mem_of_getElem? (ptAt_some (by omega))))
  have HPS : Hid (∀ k, (frP (fun k => side (a1, a2) (c1, c2) (ptAt L k)) (k + 1)) = if (frP (fun k => side (a1, a2) (c1, c2) (ptAt L k)) k).2 < side (a1, a2) (c1, c2) (ptAt L k) then (k, side (a1, a2) (c1, c2) (ptAt L k)) else frP (fun k => side (a1, a2) (c1, c2) (ptAt L k)) k) := hide (fun k => rfl)
  have HP0 : Hid (frP (fun k => side (a1, a2) (c1, c2) (ptAt L k)) 0 = (0, 0)) := hide rfl
  have HZE : Hid (zn L (a1, a2) (c1, c2) = ⟨fi L (a1, a2), fi L (c1, c2), frM (fun k => side (a1, a2) (c1, c2) (ptAt L k)) n, side (a1, a2) (c1, c2) (ptAt L (frM (fun k => side (a1, a2) (c1, c2) (ptAt L k)) n)) * side (a1, a2) (c1, c2) (ptAt L (frM (fun k => side (a1, a2) (c1, c2) (ptAt L k)) n)), sqd (a1, a2) (c1, c2)⟩) := hide (by unfold zn; rw [hL])
  have HSD : Hid (∀ k, side (a1, a2) (c1, c2) (ptAt L k) = (c1 - a1) * ((ptAt L k).2 - a2) - (c2 - a2) * ((ptAt L k).1 - a1)) := hide (fun k => rfl)
  obtain ⟨FR, hFR⟩ : ∃ FR, frP (fun k => side (a1, a2) (c1, c2) (ptAt L k)) = FR := ⟨_, rfl⟩
  obtain ⟨FM, hFM⟩ : ∃ FM, frM (fun k => side (a1, a2) (c1, c2) (ptAt L k)) n = FM := ⟨_, rfl⟩
  rw [hFM] at HQ2 HFL HZE
  rw [hFR] at HQ2 HP0
  simp only [hFR] at HPS
  obtain ⟨SD, hSD⟩ : ∃ SD : Nat → Int, (fun k => side (a1, a2) (c1, c2) (ptAt L k)) = SD := ⟨_, rfl⟩
  have hSD' : ∀ k, side (a1, a2) (c1, c2) (ptAt L k) = SD k := fun k => by rw [← hSD]
  simp only [hSD'] at HQ2 HMO HPS HZE HSD
  clear hFR hFM hSD hSD' hL hs hI ha hc hN
  go_enter Try.func24, Try.ntmps24
  go_wp2_with fail
  generalize (w.alloc (.cells #[.int .i64 a1, .int .i64 a2, .int .i64 c1, .int .i64 c2] 54)).alloc (.cells #[.int .i64 0, .int .i64 0, .int .i64 0, .int .i64 0, .int .i64 0] 26) = W0 at *
  have k0 := (unhide H3).cell (m := 0) rfl
  have k1 := (unhide H3).cell (m := 1) rfl
  have k2 := (unhide H3).cell (m := 2) rfl
  have k3 := (unhide H3).cell (m := 3) rfl
  try go_wp2_with fail
  refine (sub_bel c1 c2 a1 a2 W0 oc oa).mono ?_
  rintro e W1 ⟨rfl, hb1⟩
  have hA : Below W1.heap.size W1 (W1.alloc (.cells #[.int .i64 (c1 - a1), .int .i64 (c2 - a2)] 30)) := ba (Below.refl _ _) _
  have hbA := bc hb1 hA
  have H3b := hide ((unhide H3).bel hbA)
  have H4b := hide ((unhide H4).bel hbA)
  have H5 := hide (cb_new W1 30 [.int .i64 (c1 - a1), .int .i64 (c2 - a2)] W1.heap.size rfl)
  have HB1 := hide (bc (unhide HB0) hbA)
  have HI1 := hide ((unhide HI).below (unhide HB1) hb)
  have hbl : b < (W1.alloc (.cells #[.int .i64 (c1 - a1), .int .i64 (c2 - a2)] 30)).heap.size := Nat.lt_of_lt_of_le hb (unhide HB1).size
  clear hb1 hA hbA k0 k1 k2 k3 H3 H4 HB0 HI
  go_upto_region 2 with fail
  generalize W1.alloc (.cells #[.int .i64 (c1 - a1), .int .i64 (c2 - a2)] 30) = W2 at *
  generalize W1.heap.size = b5 at *
  go_wp2_with fail
  go_loopw [6, 7, 18] (fun z6 z7 z X => ∃ k : Nat, z = .int .i64 (k : Int) ∧ k ≤ n ∧ z6 = .int .i64 ((FR k).1 : Int) ∧ z7 = .int .i64 (FR k).2 ∧ Below W2.heap.size W2 X) (fun _ _ z _ => n - (intOf z).toNat)
  case atStart => exact ⟨0, rfl, Nat.zero_le _, by rw [unhide HP0]; rfl, by rw [unhide HP0], Below.refl _ _⟩
  case round =>
    obtain ⟨k, rfl, hk, rfl, rfl, hw⟩ := hrel
    have HW := hide hw
    have v3 := (unhide H3b).bel hw
    have v5 := (unhide H5).bel hw
    by_cases h : k < n
    · have i1 : (k : Int) < (n : Int) := by omega
      have i0 : (0 : Int) ≤ (k : Int) := Int.natCast_nonneg _
      have iz : decide ((k : Int) < (n : Int)) = true := decide_eq_true i1
      have hx := ptAt_some (L := L) (i := k) (by rw [unhide HL]; exact h)
      have hnr := unhide HNR k h
      have hsd := unhide HSD k
      have hps := unhide HPS k
      obtain ⟨⟨x, y⟩, hxy⟩ : ∃ q, ptAt L k = q := ⟨_, rfl⟩
      rw [hxy] at hx hnr hsd
      simp only at hnr hsd
      obtain ⟨c0, c1'⟩ := pts_at ((unhide HI1).below hw hbl) hx
      have ox : ptOk (x, y) = true := near_ok (p := (x, y)) hnr
      have HA1 := hide (fun X => sub_bel x y a1 a2 X ox oa)
      have HA2 := hide (fun X => acr_bel (c1 - a1) (c2 - a2) (x - a1) (y - a2) X (by omega) (by omega))
      rw [← hsd] at HA2
      have HPK := hide hps
      generalize SD k = sd at *
      have HXW : Hid (Below wr.heap.size wr (wr.alloc (.cells #[.int .i64 x, .int .i64 y] 30))) := hide (ba (Below.refl _ _) _)
      have V3 := hide (v3.bel (unhide HXW))
      have V5 := hide (v5.bel (unhide HXW))
      have V9 := hide (cb_new wr 30 [.int .i64 x, .int .i64 y] wr.heap.size rfl)
      have HWX := hide (bc hw (unhide HXW))
      clear hx hxy hnr hsd hps v3 v5 hw HW
      go_wp2_with fail
      generalize wr.alloc (.cells #[.int .i64 x, .int .i64 y] 30) = Wx at *
      generalize wr.heap.size = b9 at *
      have e0 := (unhide V3).cell (m := 0) rfl
      have e1 := (unhide V3).cell (m := 1) rfl
      have w0 := (unhide V5).cell (m := 0) rfl
      have w1 := (unhide V5).cell (m := 1) rfl
      have n0 := (unhide V9).cell (m := 0) rfl
      have n1 := (unhide V9).cell (m := 1) rfl
      clear c0 c1'
      go_region_held3 (fun wx => wx.cell? ⟨w.heap.size, 0, none⟩ = some (.int .i64 a1) ∧ wx.cell? ⟨w.heap.size, 1, none⟩ = some (.int .i64 a2) ∧ wx.cell? ⟨b5, 0, none⟩ = some (.int .i64 (c1 - a1)) ∧ wx.cell? ⟨b5, 1, none⟩ = some (.int .i64 (c2 - a2)) ∧ wx.cell? ⟨b9, 0, none⟩ = some (.int .i64 x) ∧ wx.cell? ⟨b9, 1, none⟩ = some (.int .i64 y))
        (simp (maxDischargeDepth := 12) [go_sem, le1, lt1, *])
        (first
        | (go_at_call 52; with_reducible refine (unhide HA1 _).mono ?_; rintro e w' ⟨rfl, hb'⟩; have HBx := hide (show Below Wx.heap.size Wx w' from bc (by repeat (first | exact Below.refl _ _ | refine Below.drew ?_)) hb'); have p0 := keep1 hb' (b := w.heap.size) (o := 0) (v := .int .i64 a1) (by simp (maxDischargeDepth := 12) [go_sem, le1, lt1, *]); have p1 := keep1 hb' (b := w.heap.size) (o := 1) (v := .int .i64 a2) (by simp (maxDischargeDepth := 12) [go_sem, le1, lt1, *]); have p2 := keep1 hb' (b := b5) (o := 0) (v := .int .i64 (c1 - a1)) (by simp (maxDischargeDepth := 12) [go_sem, le1, lt1, *]); have p3 := keep1 hb' (b := b5) (o := 1) (v := .int .i64 (c2 - a2)) (by simp (maxDischargeDepth := 12) [go_sem, le1, lt1, *]); have p4 := keep1 hb' (b := b9) (o := 0) (v := .int .i64 x) (by simp (maxDischargeDepth := 12) [go_sem, le1, lt1, *]); have p5 := keep1 hb' (b := b9) (o := 1) (v := .int .i64 y) (by simp (maxDischargeDepth := 12) [go_sem, le1, lt1, *]); clear hb')
        | (go_at_call 55; with_reducible refine (unhide HA2 _).mono ?_; rintro e w' ⟨rfl, hb'⟩; have HBy := hide (show Below Wx.heap.size Wx w' from bc (by repeat (first | exact unhide HBx | refine Below.drew ?_)) hb'); have q0 := keep1 hb' (b := w.heap.size) (o := 0) (v := .int .i64 a1) (by simp (maxDischargeDepth := 12) [go_sem, le1, lt1, *]); have q1 := keep1 hb' (b := w.heap.size) (o := 1) (v := .int .i64 a2) (by simp (maxDischargeDepth := 12) [go_sem, le1, lt1, *]); have q2 := keep1 hb' (b := b5) (o := 0) (v := .int .i64 (c1 - a1)) (by simp (maxDischargeDepth := 12) [go_sem, le1, lt1, *]); have q3 := keep1 hb' (b := b5) (o := 1) (v := .int .i64 (c2 - a2)) (by simp (maxDischargeDepth := 12) [go_sem, le1, lt1, *]); have q4 := keep1 hb' (b := b9) (o := 0) (v := .int .i64 x) (by simp (maxDischargeDepth := 12) [go_sem, le1, lt1, *]); have q5 := keep1 hb' (b := b9) (o := 1) (v := .int .i64 y) (by simp (maxDischargeDepth := 12) [go_sem, le1, lt1, *]); clear hb'))
      all_goals
        have HWY := hide (bc (unhide HWX) (unhide HBy))
        by_cases hlt : (FR k).2 < sd
        · have dl : decide ((FR k).2 < sd) = true := decide_eq_true hlt
          go_wp2_with fail
          go_roundw
          case rel => exact ⟨k + 1, by simp, h, by rw [unhide HPK, if_pos hlt], by rw [unhide HPK, if_pos hlt], by repeat (first | exact unhide HWY | refine Below.drew ?_)⟩
          case measure => simp only [intOf]; omega
        · have dl : decide ((FR k).2 < sd) = false := decide_eq_false hlt
          go_wp2_with fail
          go_roundw
          case rel => exact ⟨k + 1, by simp, h, by rw [unhide HPK, if_neg hlt], by rw [unhide HPK, if_neg hlt], by repeat (first | exact unhide HWY | refine Below.drew ?_)⟩
          case measure => simp only [intOf]; omega
    · have iz : decide ((k : Int) < (n : Int)) = false := decide_eq_false (by omega)
      obtain rfl : n = k := by omega
      have v4 := (unhide H4b).bel hw
      have hq2 := unhide HQ2
      have hmo := unhide HMO FM (unhide HFL)
      rw [hq2]
      simp only
      generalize SD FM = mo at *
      have hmm := mulB (x := mo) (y := mo) (a := 320000) (b := 320000) (by omega) (by omega) (by omega) (by omega)
      have HB4 := hide (bc (unhide HB1) hw)
      have HIx := hide ((unhide HI1).below hw hbl)
      have hbx : b < wr.heap.size := Nat.lt_of_lt_of_le hbl hw.size
      have H3x := hide v3
      have H4x := hide v4
      have H5x := hide v5
      have hb4w : w.heap.size + 1 < wr.heap.size := v4.lt
      clear hq2 hw v3 v4 v5 HW
      go_wp2_with fail
      refine Go.Code.wp_mono (Only.to (fun _ _ h => h)) (za10 (ja := fi L (a1, a2)) (jb := fi L (c1, c2)) (dd := sqd (a1, a2) (c1, c2)) (a1 := a1) (a2 := a2) (c1 := c1) (c2 := c2) (w1 := c1 - a1) (w2 := c2 - a2) hb4w (hide ((unhide H3x).cell (m := 0) rfl)) (hide ((unhide H3x).cell (m := 1) rfl)) (hide ((unhide H3x).cell (m := 2) rfl)) (hide ((unhide H3x).cell (m := 3) rfl)) (hide ((unhide H5x).cell (m := 0) rfl)) (hide ((unhide H5x).cell (m := 1) rfl)) (hide (unhide H4x).zero) (hide (unhide H4x).frozen) (hide (wr64 (by omega) (by omega)))
        (hide fun X hX => idxP_any b cap n L a1 a2 _ X HL (by omega) (Nat.lt_of_lt_of_le hbx hX.size) (hide ((unhide HIx).below hX hbx)) HFA)
        (hide fun X hX => idxP_any b cap n L c1 c2 _ X HL (by omega) (Nat.lt_of_lt_of_le hbx hX.size) (hide ((unhide HIx).below hX hbx)) HFC)
        (hide fun X hX => by rw [← sq_way a1 a2 c1 c2]; exact aloP_any _ _ _ _ X (by omega) (by omega)) (fun W9 hW9 => ?_))
      have V4 := hide ((((((unhide H4x).bel hW9).set 0 (.int .i64 (fi L (a1, a2) : Int))).set 1 (.int .i64 (fi L (c1, c2) : Int))).set 2 (.int .i64 (FM : Int))).set 3 (.int .i64 (mo * mo)) |>.set 4 (.int .i64 (sqd (a1, a2) (c1, c2))))
      have HB9 := hide (bc (unhide HB4) hW9)
      clear hW9
      have s0 := (unhide V4).cell (m := 0) rfl
      have s1 := (unhide V4).cell (m := 1) rfl
      have s2 := (unhide V4).cell (m := 2) rfl
      have s3 := (unhide V4).cell (m := 3) rfl
      have s4 := (unhide V4).cell (m := 4) rfl
      go_wp2_with fail
      refine bodyPost_ret (v := .agg #[.int .i64 (fi L (a1, a2) : Int), .int .i64 (fi L (c1, c2) : Int), .int .i64 (FM : Int), .int .i64 (mo * mo), .int .i64 (sqd (a1, a2) (c1, c2))]) (by simp [results, Try.results24, go_sem, s0, s1, s2, s3, s4]) rfl ⟨by rw [unhide HZE]; rfl, ?_⟩
      exact Below.setCell (Below.setCell (Below.setCell (Below.setCell (Below.setCell (unhide HB9) (by simp) _) (by simp) _) (by simp) _) (by simp) _) (by simp) _
end Go.Proofs.Ytdcecfgmfmpeeaa
