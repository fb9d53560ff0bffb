/-
  Rows of features of one's own: marks on them, that these are held. Marks on a row of features of one's own: all else in memory stays. Slices of texts: how great they are, copied. A slice of features that came in, opened. A slice of texts that came in, opened. What the laws ask of rows of features: that two are the same, that one is made of another, how much there is of it. What the laws ask of rows of features: that one is made of another, how much there is of it. What the laws ask of rows of features: how much there is of it.
-/
import Derived.Test.YtkkmikgeppkhiaaMrc
import Derived.Test.YtkkmikgeppkhiaaFtMark
import Derived.Test.YtkkmikgeppkhiaaStRows
import Derived.Test.YtkkmikgeppkhiaaNmAt
import Derived.Test.YtkkmikgeppkhiaaCkM
import Derived.Deep.Slices
import Derived.ChangeSame
import Derived.Deep.Strs
namespace Go.Proofs.Ytkkmikgeppkhiaa
open Go.ChangeShapes Go.WideShapes Go.ChangeAt Go.RowKit
set_option linter.unusedVariables false
set_option linter.unusedSimpArgs false

def mkF (c i : Nat) : Ft := ⟨mkT (c + 15 * i), mkT (c + 15 * i + 1), mkT (c + 15 * i + 2), (c : Int) + 15 * (i : Int) + 1 + 1 + 1, (c : Int) + 15 * (i : Int) + 1 + 1 + 1 + 1, (c : Int) + 15 * (i : Int) + 1 + 1 + 1 + 1 + 1, (c : Int) + 15 * (i : Int) + 1 + 1 + 1 + 1 + 1 + 1, (c : Int) + 15 * (i : Int) + 1 + 1 + 1 + 1 + 1 + 1 + 1, (c : Int) + 15 * (i : Int) + 1 + 1 + 1 + 1 + 1 + 1 + 1 + 1, (c : Int) + 15 * (i : Int) + 1 + 1 + 1 + 1 + 1 + 1 + 1 + 1 + 1, (c : Int) + 15 * (i : Int) + 1 + 1 + 1 + 1 + 1 + 1 + 1 + 1 + 1 + 1, (c : Int) + 15 * (i : Int) + 1 + 1 + 1 + 1 + 1 + 1 + 1 + 1 + 1 + 1 + 1, (c : Int) + 15 * (i : Int) + 1 + 1 + 1 + 1 + 1 + 1 + 1 + 1 + 1 + 1 + 1 + 1, (c : Int) + 15 * (i : Int) + 1 + 1 + 1 + 1 + 1 + 1 + 1 + 1 + 1 + 1 + 1 + 1 + 1, (c : Int) + 15 * (i : Int) + 1 + 1 + 1 + 1 + 1 + 1 + 1 + 1 + 1 + 1 + 1 + 1 + 1 + 1⟩
def mkFs (c n : Nat) : List Ft := (List.range n).map (mkF c)
theorem mkFs_len (c n : Nat) : (mkFs c n).length = n := by simp [mkFs]
theorem mkFs_at (c n i : Nat) (h : i < n) : (mkFs c n)[i]? = some (mkF c i) := by simp [mkFs, h]
theorem own_eq {w : World} {B t k n : Nat} {v : Value} {L M : List Value} (h : w.ownsRow B t k v n L) (e : L = M) : w.ownsRow B t k v n M := by rw [← e]; exact h
theorem set15 (L : List Value) (o : Nat) (v0 v1 v2 v3 v4 v5 v6 v7 v8 v9 v10 v11 v12 v13 v14 : Value) : setAll L o [v0, v1, v2, v3, v4, v5, v6, v7, v8, v9, v10, v11, v12, v13, v14] = ((((((((((((((L.set o v0).set (o + 1) v1).set (o + 2) v2).set (o + 3) v3).set (o + 4) v4).set (o + 5) v5).set (o + 6) v6).set (o + 7) v7).set (o + 8) v8).set (o + 9) v9).set (o + 10) v10).set (o + 11) v11).set (o + 12) v12).set (o + 13) v13).set (o + 14) v14 := rfl
theorem ocell {w : World} {B n cap g i : Nat} {L : List Value} (h : w.ownsRow B 57 15 (.slice (some ⟨g, 0, none⟩) n cap) n L) (hi : i < n) {j : Nat} (hj : j < 15) : ∃ v, w.cell? ⟨g, i * 15 + j, none⟩ = some v := by
  have hl := h.1
  have hx : i * 15 + j < L.length := by rw [hl]; omega
  exact ⟨_, own_cells h (List.getElem?_eq_getElem hx)⟩
set_option maxRecDepth 100000 in
set_option maxHeartbeats 4000000 in
theorem ft_markO (u : Option Addr) (B n cu c : Nat) (fs : List Ft) (w : World) (hl : fs.length = n) (hn : n ≤ 1048576) (c0 : 0 < c) (c1 : c ≤ 40000000) (hs : w.ownsRow B 57 15 (.slice u n cu) n (flatG ftc fs)) (hB : B ≤ w.heap.size) :
    Calls Try.prog 12 #[.slice u n cu, .int .i64 (c : Int)] w fun e w' => e = .returned (.int .i64 ((c : Int) + 15 * (n : Int))) ∧ w'.ownsRow B 57 15 (.slice u n cu) n (flatG ftc (mkFs c n)) ∧ Below B w w' := by
  by_cases hn0 : n = 0
  · subst hn0
    have hl0 : fs = [] := List.eq_nil_of_length_eq_zero hl
    subst hl0
    have HS := hide hs
    clear hs hl
    go_enter Try.func12, Try.ntmps12
    go_wp2
    go_loopw [1, 5] (fun s t W => s = .int .i64 (c : Int) ∧ t = .int .i64 0 ∧ W = w) (fun _ s _ => 0)
    case atStart => exact ⟨rfl, rfl, rfl⟩
    case round =>
      obtain ⟨rfl, rfl, hw⟩ := hrel
      subst hw
      go_wp2
      go_ret
      exact ⟨by simp, unhide HS, Below.refl _ _⟩
  · obtain ⟨u9, c9, e9, _, _, h9⟩ := own_form hs
    injection e9 with a1 a2 a3
    subst a1
    subst a3
    obtain ⟨g, rfl, hg1, hg2, hc⟩ := h9 (by omega)
    have HS := hide hs
    have HL := hide hl
    clear hs h9 hc hl a2 hg2
    go_enter Try.func12, Try.ntmps12
    go_wp2
    go_loopw [1, 5] (fun s t W => ∃ (i : Nat) (l : List Ft), s = .int .i64 ((c : Int) + 15 * (i : Int)) ∧ t = .int .i64 (i : Int) ∧ i ≤ n ∧ l.length = n ∧ (∀ j, j < i → l[j]? = some (mkF c j)) ∧ W.ownsRow B 57 15 (.slice (some ⟨g, 0, none⟩) n cu) n (flatG ftc l) ∧ Below B w W) (fun _ s _ => n - (intOf s).toNat)
    case atStart => exact ⟨0, fs, by simp, rfl, Nat.zero_le _, unhide HL, fun j hj => by omega, unhide HS, Below.refl _ _⟩
    case round =>
      clear HS HL fs
      obtain ⟨i, l, rfl, rfl, hi, hl, hmk, hown, hw⟩ := hrel
      have HO := hide hown
      have HW := hide hw
      have HL := hide hl
      have HMK := hide hmk
      clear hown hw hl hmk
      by_cases h : i < n
      · have i1 : (i : Int) < (n : Int) := by omega
        have i0 : (0 : Int) ≤ (i : Int) := Int.natCast_nonneg _
        have iz : decide ((i : Int) < (n : Int)) = true := decide_eq_true i1
        have K0 := hide (fun W => mkText_any (c + 15 * i) W (by omega) (by omega))
        have K1 := hide (fun W => mkText_any (c + 15 * i + 1) W (by omega) (by omega))
        have K2 := hide (fun W => mkText_any (c + 15 * i + 2) W (by omega) (by omega))
        rw [show (((c + 15 * i : Nat) : Int)) = (c : Int) + 15 * (i : Int) by omega] at K0
        rw [show (((c + 15 * i + 1 : Nat) : Int)) = (c : Int) + 15 * (i : Int) + 1 by omega] at K1
        rw [show (((c + 15 * i + 2 : Nat) : Int)) = (c : Int) + 15 * (i : Int) + 1 + 1 by omega] at K2
        have HMF : Hid (mkF c i = ⟨mkT (c + 15 * i), mkT (c + 15 * i + 1), mkT (c + 15 * i + 2), (c : Int) + 15 * (i : Int) + 1 + 1 + 1, (c : Int) + 15 * (i : Int) + 1 + 1 + 1 + 1, (c : Int) + 15 * (i : Int) + 1 + 1 + 1 + 1 + 1, (c : Int) + 15 * (i : Int) + 1 + 1 + 1 + 1 + 1 + 1, (c : Int) + 15 * (i : Int) + 1 + 1 + 1 + 1 + 1 + 1 + 1, (c : Int) + 15 * (i : Int) + 1 + 1 + 1 + 1 + 1 + 1 + 1 + 1, (c : Int) + 15 * (i : Int) + 1 + 1 + 1 + 1 + 1 + 1 + 1 + 1 + 1, (c : Int) + 15 * (i : Int) + 1 + 1 + 1 + 1 + 1 + 1 + 1 + 1 + 1 + 1, (c : Int) + 15 * (i : Int) + 1 + 1 + 1 + 1 + 1 + 1 + 1 + 1 + 1 + 1 + 1, (c : Int) + 15 * (i : Int) + 1 + 1 + 1 + 1 + 1 + 1 + 1 + 1 + 1 + 1 + 1 + 1, (c : Int) + 15 * (i : Int) + 1 + 1 + 1 + 1 + 1 + 1 + 1 + 1 + 1 + 1 + 1 + 1 + 1, (c : Int) + 15 * (i : Int) + 1 + 1 + 1 + 1 + 1 + 1 + 1 + 1 + 1 + 1 + 1 + 1 + 1 + 1⟩) := hide rfl
        generalize mkT (c + 15 * i) = s0 at *
        generalize mkT (c + 15 * i + 1) = s1 at *
        generalize mkT (c + 15 * i + 2) = s2 at *
        have HS0 := hide (Nat.le_trans hB (unhide HW).size)
        go_wp2_with fail
        refine (unhide K0 _).mono ?_
        rintro e W1 ⟨rfl, hb1⟩
        have pb1 := own_bel (unhide HO) hb1
        have HW1 := hide ((unhide HW).trans (hb1.mono (unhide HS0)))
        obtain ⟨v0, e0⟩ := ocell pb1 h (j := 0) (by omega)
        rw [Nat.add_zero] at e0
        have fz1 : ∀ q, W1.frozen? ⟨g, q, none⟩ = false := own_frz pb1
        have P1 := hide (own_set pb1 (i * 15) (.string s0))
        have HS1 := hide (Nat.le_trans (unhide HS0) hb1.size)
        have HV1 : Hid (Below B w (W1.setCell ⟨g, i * 15, none⟩ (.string s0))) := hide (Below.setCell (unhide HW1) hg1 _)
        clear hb1 pb1
        go_wp2_with fail
        refine (unhide K1 _).mono ?_
        rintro e W2 ⟨rfl, hb2⟩
        have pb2 := own_bel (unhide P1) hb2
        have HW2 := hide ((unhide HV1).trans (hb2.mono (by have := unhide HS1; simpa [World.setCell] using this)))
        obtain ⟨v1, e1⟩ := ocell pb2 h (j := 1) (by omega)
        have fz2 : ∀ q, W2.frozen? ⟨g, q, none⟩ = false := own_frz pb2
        have P2 := hide (own_set pb2 (i * 15 + 1) (.string s1))
        have HS2 : Hid (B ≤ W2.heap.size) := hide (Nat.le_trans (unhide HS1) (by have := hb2.size; simpa [World.setCell] using this))
        have HV2 : Hid (Below B w (W2.setCell ⟨g, i * 15 + 1, none⟩ (.string s1))) := hide (Below.setCell (unhide HW2) hg1 _)
        clear hb2 pb2 e0 fz1
        go_wp2_with fail
        refine (unhide K2 _).mono ?_
        rintro e W3 ⟨rfl, hb3⟩
        have pb3 := own_bel (unhide P2) hb3
        have HW3 := hide ((unhide HV2).trans (hb3.mono (by have := unhide HS2; simpa [World.setCell] using this)))
        obtain ⟨v2, e2⟩ := ocell pb3 h (j := 2) (by omega)
        obtain ⟨v3, e3⟩ := ocell pb3 h (j := 3) (by omega)
        obtain ⟨v4, e4⟩ := ocell pb3 h (j := 4) (by omega)
        obtain ⟨v5, e5⟩ := ocell pb3 h (j := 5) (by omega)
        obtain ⟨v6, e6⟩ := ocell pb3 h (j := 6) (by omega)
        obtain ⟨v7, e7⟩ := ocell pb3 h (j := 7) (by omega)
        obtain ⟨v8, e8⟩ := ocell pb3 h (j := 8) (by omega)
        obtain ⟨v9, e9⟩ := ocell pb3 h (j := 9) (by omega)
        obtain ⟨v10, e10⟩ := ocell pb3 h (j := 10) (by omega)
        obtain ⟨v11, e11⟩ := ocell pb3 h (j := 11) (by omega)
        obtain ⟨v12, e12⟩ := ocell pb3 h (j := 12) (by omega)
        obtain ⟨v13, e13⟩ := ocell pb3 h (j := 13) (by omega)
        obtain ⟨v14, e14⟩ := ocell pb3 h (j := 14) (by omega)
        have fz3 : ∀ q, W3.frozen? ⟨g, q, none⟩ = false := own_frz pb3
        have P3 := hide pb3
        clear hb3 pb3 e1 fz2
        go_wp2_with fail
        go_roundw
        case rel =>
          refine ⟨i + 1, l.set i (mkF c i), by simp only [Value.int.injEq, true_and]; omega, by simp, h, by rw [List.length_set]; exact unhide HL, ?_, own_eq (own_set (own_set (own_set (own_set (own_set (own_set (own_set (own_set (own_set (own_set (own_set (own_set (own_set (unhide P3) (i * 15 + 2) _) (i * 15 + 3) _) (i * 15 + 4) _) (i * 15 + 5) _) (i * 15 + 6) _) (i * 15 + 7) _) (i * 15 + 8) _) (i * 15 + 9) _) (i * 15 + 10) _) (i * 15 + 11) _) (i * 15 + 12) _) (i * 15 + 13) _) (i * 15 + 14) _) ?_, Below.setCell (Below.setCell (Below.setCell (Below.setCell (Below.setCell (Below.setCell (Below.setCell (Below.setCell (Below.setCell (Below.setCell (Below.setCell (Below.setCell (Below.setCell (unhide HW3) hg1 _) hg1 _) hg1 _) hg1 _) hg1 _) hg1 _) hg1 _) hg1 _) hg1 _) hg1 _) hg1 _) hg1 _) hg1 _⟩
          · intro j hj
            by_cases e : j = i
            · subst e
              exact List.getElem?_set_self (by rw [unhide HL]; exact h)
            · rw [List.getElem?_set_ne (fun q => e q.symm)]
              exact unhide HMK j (by omega)
          · rw [flatG_set ftc_len l i _ (by rw [unhide HL]; exact h), unhide HMF]
            rfl
        case measure => simp only [intOf]; omega
      · have i1 : ¬ (i : Int) < (n : Int) := by omega
        have iz : decide ((i : Int) < (n : Int)) = false := decide_eq_false i1
        have en : i = n := by omega
        subst en
        have hfin : l = mkFs c i := by
          refine List.ext_getElem? fun j => ?_
          by_cases hj : j < i
          · rw [unhide HMK j hj, mkFs_at c i j hj]
          · rw [List.getElem?_eq_none (by rw [unhide HL]; omega), List.getElem?_eq_none (by rw [mkFs_len]; omega)]
        have HFIN := hide hfin
        clear hfin
        go_wp2_with fail
        go_ret
        refine ⟨rfl, ?_, unhide HW⟩
        rw [← unhide HFIN]
        exact unhide HO
set_option maxRecDepth 100000 in
set_option maxHeartbeats 8000000 in
theorem ft_heldO (u : Option Addr) (p po n cu c : Nat) (w : World) (hn : n ≤ 1048576) (c0 : 0 < c) (c1 : c ≤ 40000000) (hu : SlG ftc 15 w u p po (mkFs c n)) :
    Calls Try.prog 19 #[.slice u n cu, .int .i64 (c : Int)] w fun e w' => e = .returned (.int .i64 ((c : Int) + 15 * (n : Int))) ∧ Below w.heap.size w w' := by
  have HU := hide hu
  clear hu
  go_enter Try.func19, Try.ntmps19
  go_wp2
  go_loopw [1, 5] (fun s t W => ∃ i : Nat, s = .int .i64 ((c : Int) + 15 * (i : Int)) ∧ t = .int .i64 (i : Int) ∧ i ≤ n ∧ Below w.heap.size w W) (fun _ s _ => n - (intOf s).toNat)
  case atStart => exact ⟨0, by simp, rfl, Nat.zero_le _, Below.refl _ _⟩
  case round =>
    obtain ⟨i, rfl, rfl, hi, hw⟩ := hrel
    have HW := hide hw
    by_cases h : i < n
    · have i1 : (i : Int) < (n : Int) := by omega
      have i0 : (0 : Int) ≤ (i : Int) := Int.natCast_nonneg _
      have iz : decide ((i : Int) < (n : Int)) = true := decide_eq_true i1
      obtain ⟨rfl, k0, k1, k2, k3, k4, k5, k6, k7, k8, k9, k10, k11, k12, k13, k14⟩ := ((unhide HU).bel hw).at15 (mkFs_at c n i h)
      have kl := cell_lt k0
      have K0 := hide (fun W => mkText_any (c + 15 * i) W (by omega) (by omega))
      have K1 := hide (fun W => mkText_any (c + 15 * i + 1) W (by omega) (by omega))
      have K2 := hide (fun W => mkText_any (c + 15 * i + 2) W (by omega) (by omega))
      rw [show (((c + 15 * i : Nat) : Int)) = (c : Int) + 15 * (i : Int) by omega] at K0
      rw [show (((c + 15 * i + 1 : Nat) : Int)) = (c : Int) + 15 * (i : Int) + 1 by omega] at K1
      rw [show (((c + 15 * i + 2 : Nat) : Int)) = (c : Int) + 15 * (i : Int) + 1 + 1 by omega] at K2
      simp only [mkF] at k0 k1 k2 k3 k4 k5 k6 k7 k8 k9 k10 k11 k12 k13 k14
      generalize mkT (c + 15 * i) = s0 at *
      generalize mkT (c + 15 * i + 1) = s1 at *
      generalize mkT (c + 15 * i + 2) = s2 at *
      clear hw
      go_wp2_with fail
      go_region_held3 (fun wx => wx.cell? ⟨p, po + i * 15, none⟩ = some (.string s0) ∧ wx.cell? ⟨p, po + i * 15 + 1, none⟩ = some (.string s1) ∧ wx.cell? ⟨p, po + i * 15 + 2, none⟩ = some (.string s2) ∧ wx.cell? ⟨p, po + i * 15 + 3, none⟩ = some (.int .i64 ((c : Int) + 15 * (i : Int) + 1 + 1 + 1)) ∧ wx.cell? ⟨p, po + i * 15 + 4, none⟩ = some (.int .i64 ((c : Int) + 15 * (i : Int) + 1 + 1 + 1 + 1)) ∧ wx.cell? ⟨p, po + i * 15 + 5, none⟩ = some (.int .i64 ((c : Int) + 15 * (i : Int) + 1 + 1 + 1 + 1 + 1)) ∧ wx.cell? ⟨p, po + i * 15 + 6, none⟩ = some (.int .i64 ((c : Int) + 15 * (i : Int) + 1 + 1 + 1 + 1 + 1 + 1)) ∧ wx.cell? ⟨p, po + i * 15 + 7, none⟩ = some (.int .i64 ((c : Int) + 15 * (i : Int) + 1 + 1 + 1 + 1 + 1 + 1 + 1)) ∧ wx.cell? ⟨p, po + i * 15 + 8, none⟩ = some (.int .i64 ((c : Int) + 15 * (i : Int) + 1 + 1 + 1 + 1 + 1 + 1 + 1 + 1)) ∧ wx.cell? ⟨p, po + i * 15 + 9, none⟩ = some (.int .i64 ((c : Int) + 15 * (i : Int) + 1 + 1 + 1 + 1 + 1 + 1 + 1 + 1 + 1)) ∧ wx.cell? ⟨p, po + i * 15 + 10, none⟩ = some (.int .i64 ((c : Int) + 15 * (i : Int) + 1 + 1 + 1 + 1 + 1 + 1 + 1 + 1 + 1 + 1)) ∧ wx.cell? ⟨p, po + i * 15 + 11, none⟩ = some (.int .i64 ((c : Int) + 15 * (i : Int) + 1 + 1 + 1 + 1 + 1 + 1 + 1 + 1 + 1 + 1 + 1)) ∧ wx.cell? ⟨p, po + i * 15 + 12, none⟩ = some (.int .i64 ((c : Int) + 15 * (i : Int) + 1 + 1 + 1 + 1 + 1 + 1 + 1 + 1 + 1 + 1 + 1 + 1)) ∧ wx.cell? ⟨p, po + i * 15 + 13, none⟩ = some (.int .i64 ((c : Int) + 15 * (i : Int) + 1 + 1 + 1 + 1 + 1 + 1 + 1 + 1 + 1 + 1 + 1 + 1 + 1)) ∧ wx.cell? ⟨p, po + i * 15 + 14, none⟩ = some (.int .i64 ((c : Int) + 15 * (i : Int) + 1 + 1 + 1 + 1 + 1 + 1 + 1 + 1 + 1 + 1 + 1 + 1 + 1 + 1))) (simp (maxDischargeDepth := 12) [go_sem, le1, lt1, *])
        (first
        | (go_at_call 37; refine (unhide K0 _).mono ?_; rintro e V0 ⟨rfl, hb⟩; have HB0 := hide hb; have y0_0 := keep1 hb k0; have y0_1 := keep1 hb k1; have y0_2 := keep1 hb k2; have y0_3 := keep1 hb k3; have y0_4 := keep1 hb k4; have y0_5 := keep1 hb k5; have y0_6 := keep1 hb k6; have y0_7 := keep1 hb k7; have y0_8 := keep1 hb k8; have y0_9 := keep1 hb k9; have y0_10 := keep1 hb k10; have y0_11 := keep1 hb k11; have y0_12 := keep1 hb k12; have y0_13 := keep1 hb k13; have y0_14 := keep1 hb k14; clear hb))
      all_goals
        clear k0 k1 k2 k3 k4 k5 k6 k7 k8 k9 k10 k11 k12 k13 k14 y0_0 kl
        have kl := cell_lt y0_1
        go_wp2_with fail
        go_region_held3 (fun wx => wx.cell? ⟨p, po + i * 15 + 1, none⟩ = some (.string s1) ∧ wx.cell? ⟨p, po + i * 15 + 2, none⟩ = some (.string s2) ∧ wx.cell? ⟨p, po + i * 15 + 3, none⟩ = some (.int .i64 ((c : Int) + 15 * (i : Int) + 1 + 1 + 1)) ∧ wx.cell? ⟨p, po + i * 15 + 4, none⟩ = some (.int .i64 ((c : Int) + 15 * (i : Int) + 1 + 1 + 1 + 1)) ∧ wx.cell? ⟨p, po + i * 15 + 5, none⟩ = some (.int .i64 ((c : Int) + 15 * (i : Int) + 1 + 1 + 1 + 1 + 1)) ∧ wx.cell? ⟨p, po + i * 15 + 6, none⟩ = some (.int .i64 ((c : Int) + 15 * (i : Int) + 1 + 1 + 1 + 1 + 1 + 1)) ∧ wx.cell? ⟨p, po + i * 15 + 7, none⟩ = some (.int .i64 ((c : Int) + 15 * (i : Int) + 1 + 1 + 1 + 1 + 1 + 1 + 1)) ∧ wx.cell? ⟨p, po + i * 15 + 8, none⟩ = some (.int .i64 ((c : Int) + 15 * (i : Int) + 1 + 1 + 1 + 1 + 1 + 1 + 1 + 1)) ∧ wx.cell? ⟨p, po + i * 15 + 9, none⟩ = some (.int .i64 ((c : Int) + 15 * (i : Int) + 1 + 1 + 1 + 1 + 1 + 1 + 1 + 1 + 1)) ∧ wx.cell? ⟨p, po + i * 15 + 10, none⟩ = some (.int .i64 ((c : Int) + 15 * (i : Int) + 1 + 1 + 1 + 1 + 1 + 1 + 1 + 1 + 1 + 1)) ∧ wx.cell? ⟨p, po + i * 15 + 11, none⟩ = some (.int .i64 ((c : Int) + 15 * (i : Int) + 1 + 1 + 1 + 1 + 1 + 1 + 1 + 1 + 1 + 1 + 1)) ∧ wx.cell? ⟨p, po + i * 15 + 12, none⟩ = some (.int .i64 ((c : Int) + 15 * (i : Int) + 1 + 1 + 1 + 1 + 1 + 1 + 1 + 1 + 1 + 1 + 1 + 1)) ∧ wx.cell? ⟨p, po + i * 15 + 13, none⟩ = some (.int .i64 ((c : Int) + 15 * (i : Int) + 1 + 1 + 1 + 1 + 1 + 1 + 1 + 1 + 1 + 1 + 1 + 1 + 1)) ∧ wx.cell? ⟨p, po + i * 15 + 14, none⟩ = some (.int .i64 ((c : Int) + 15 * (i : Int) + 1 + 1 + 1 + 1 + 1 + 1 + 1 + 1 + 1 + 1 + 1 + 1 + 1 + 1))) (simp (maxDischargeDepth := 12) [go_sem, le1, lt1, *])
          (first
          | (go_at_call 37; refine (unhide K1 _).mono ?_; rintro e V1 ⟨rfl, hb⟩; have HB1 := hide hb; have y1_1 := keep1 hb y0_1; have y1_2 := keep1 hb y0_2; have y1_3 := keep1 hb y0_3; have y1_4 := keep1 hb y0_4; have y1_5 := keep1 hb y0_5; have y1_6 := keep1 hb y0_6; have y1_7 := keep1 hb y0_7; have y1_8 := keep1 hb y0_8; have y1_9 := keep1 hb y0_9; have y1_10 := keep1 hb y0_10; have y1_11 := keep1 hb y0_11; have y1_12 := keep1 hb y0_12; have y1_13 := keep1 hb y0_13; have y1_14 := keep1 hb y0_14; clear hb))
        all_goals
          clear y0_1 y0_2 y0_3 y0_4 y0_5 y0_6 y0_7 y0_8 y0_9 y0_10 y0_11 y0_12 y0_13 y0_14 y1_1 kl
          have kl := cell_lt y1_2
          go_wp2_with fail
          go_region_held3 (fun wx => wx.cell? ⟨p, po + i * 15 + 2, none⟩ = some (.string s2) ∧ wx.cell? ⟨p, po + i * 15 + 3, none⟩ = some (.int .i64 ((c : Int) + 15 * (i : Int) + 1 + 1 + 1)) ∧ wx.cell? ⟨p, po + i * 15 + 4, none⟩ = some (.int .i64 ((c : Int) + 15 * (i : Int) + 1 + 1 + 1 + 1)) ∧ wx.cell? ⟨p, po + i * 15 + 5, none⟩ = some (.int .i64 ((c : Int) + 15 * (i : Int) + 1 + 1 + 1 + 1 + 1)) ∧ wx.cell? ⟨p, po + i * 15 + 6, none⟩ = some (.int .i64 ((c : Int) + 15 * (i : Int) + 1 + 1 + 1 + 1 + 1 + 1)) ∧ wx.cell? ⟨p, po + i * 15 + 7, none⟩ = some (.int .i64 ((c : Int) + 15 * (i : Int) + 1 + 1 + 1 + 1 + 1 + 1 + 1)) ∧ wx.cell? ⟨p, po + i * 15 + 8, none⟩ = some (.int .i64 ((c : Int) + 15 * (i : Int) + 1 + 1 + 1 + 1 + 1 + 1 + 1 + 1)) ∧ wx.cell? ⟨p, po + i * 15 + 9, none⟩ = some (.int .i64 ((c : Int) + 15 * (i : Int) + 1 + 1 + 1 + 1 + 1 + 1 + 1 + 1 + 1)) ∧ wx.cell? ⟨p, po + i * 15 + 10, none⟩ = some (.int .i64 ((c : Int) + 15 * (i : Int) + 1 + 1 + 1 + 1 + 1 + 1 + 1 + 1 + 1 + 1)) ∧ wx.cell? ⟨p, po + i * 15 + 11, none⟩ = some (.int .i64 ((c : Int) + 15 * (i : Int) + 1 + 1 + 1 + 1 + 1 + 1 + 1 + 1 + 1 + 1 + 1)) ∧ wx.cell? ⟨p, po + i * 15 + 12, none⟩ = some (.int .i64 ((c : Int) + 15 * (i : Int) + 1 + 1 + 1 + 1 + 1 + 1 + 1 + 1 + 1 + 1 + 1 + 1)) ∧ wx.cell? ⟨p, po + i * 15 + 13, none⟩ = some (.int .i64 ((c : Int) + 15 * (i : Int) + 1 + 1 + 1 + 1 + 1 + 1 + 1 + 1 + 1 + 1 + 1 + 1 + 1)) ∧ wx.cell? ⟨p, po + i * 15 + 14, none⟩ = some (.int .i64 ((c : Int) + 15 * (i : Int) + 1 + 1 + 1 + 1 + 1 + 1 + 1 + 1 + 1 + 1 + 1 + 1 + 1 + 1))) (simp (maxDischargeDepth := 12) [go_sem, le1, lt1, *])
            (first
            | (go_at_call 37; refine (unhide K2 _).mono ?_; rintro e V2 ⟨rfl, hb⟩; have HB2 := hide hb; have y2_2 := keep1 hb y1_2; have y2_3 := keep1 hb y1_3; have y2_4 := keep1 hb y1_4; have y2_5 := keep1 hb y1_5; have y2_6 := keep1 hb y1_6; have y2_7 := keep1 hb y1_7; have y2_8 := keep1 hb y1_8; have y2_9 := keep1 hb y1_9; have y2_10 := keep1 hb y1_10; have y2_11 := keep1 hb y1_11; have y2_12 := keep1 hb y1_12; have y2_13 := keep1 hb y1_13; have y2_14 := keep1 hb y1_14; clear hb))
          all_goals
            clear y1_2 y1_3 y1_4 y1_5 y1_6 y1_7 y1_8 y1_9 y1_10 y1_11 y1_12 y1_13 y1_14 y2_2 kl
            have kl := cell_lt y2_3
            go_wp2_with fail
            go_roundw
            case rel => exact ⟨i + 1, by simp only [Value.int.injEq, true_and]; omega, by simp, h, by repeat (first | exact unhide HW | refine bc ?_ (unhide HB2) | refine bc ?_ (unhide HB1) | refine bc ?_ (unhide HB0) | refine Below.drew ?_)⟩
            case measure => simp only [intOf]; omega
    · have i1 : ¬ (i : Int) < (n : Int) := by omega
      have iz : decide ((i : Int) < (n : Int)) = false := decide_eq_false i1
      have en : i = n := by omega
      subst en
      clear hw
      go_wp2_with fail
      go_ret
      exact ⟨rfl, unhide HW⟩
end Go.Proofs.Ytkkmikgeppkhiaa

namespace Go.Proofs.Ytkkmikgeppkhiaa
open Go.ChangeShapes Go.WideShapes Go.ChangeAt Go.RowKit
set_option linter.unusedVariables false
set_option linter.unusedSimpArgs false

/-- rows of different types lie in different blocks -/
theorem own_apart {w : World} {B B' t t' k k' n m : Nat} {v v' : Value} {L M : List Value} (h : w.ownsRow B t k v n L) (h' : w.ownsRow B' t' k' v' m M) (ht : t ≠ t') {g : Nat} (hv : v.ownBlock = some g) : v'.ownBlock ≠ some g := by
  intro hv'
  rcases h.2 with ⟨rfl, _⟩ | ⟨g1, cap, cur, rfl, _, hh, _⟩
  · cases hv
  · rcases h'.2 with ⟨rfl, _⟩ | ⟨g2, cap', cur', rfl, _, hh', _⟩
    · cases hv'
    · simp only [Value.ownBlock, Option.some.injEq] at hv hv'
      subst hv
      subst hv'
      rw [hh] at hh'
      simp only [Option.some.injEq, Obj.cells.injEq] at hh'
      exact ht hh'.2.1
set_option maxRecDepth 100000 in
set_option maxHeartbeats 4000000 in
theorem ft_markW (u : Option Addr) (B n cu c : Nat) (fs : List Ft) (w : World) (hl : fs.length = n) (hn : n ≤ 1048576) (c0 : 0 < c) (c1 : c ≤ 40000000) (hs : w.ownsRow B 57 15 (.slice u n cu) n (flatG ftc fs)) (hB : B ≤ w.heap.size) :
    Calls Try.prog 12 #[.slice u n cu, .int .i64 (c : Int)] w fun e w' => e = .returned (.int .i64 ((c : Int) + 15 * (n : Int))) ∧ w'.ownsRow B 57 15 (.slice u n cu) n (flatG ftc (mkFs c n)) ∧ (n = 0 → w' = w) ∧ (n ≠ 0 → ∃ g, u = some ⟨g, 0, none⟩ ∧ B ≤ g ∧ Mw g w w') := by
  by_cases hn0 : n = 0
  · subst hn0
    have hl0 : fs = [] := List.eq_nil_of_length_eq_zero hl
    subst hl0
    have HS := hide hs
    clear hs hl
    go_enter Try.func12, Try.ntmps12
    go_wp2
    go_loopw [1, 5] (fun s t W => s = .int .i64 (c : Int) ∧ t = .int .i64 0 ∧ W = w) (fun _ s _ => 0)
    case atStart => exact ⟨rfl, rfl, rfl⟩
    case round =>
      obtain ⟨rfl, rfl, hw⟩ := hrel
      subst hw
      go_wp2
      go_ret
      exact ⟨by simp, unhide HS, fun _ => rfl, fun h => absurd rfl h⟩
  · obtain ⟨u9, c9, e9, _, _, h9⟩ := own_form hs
    injection e9 with a1 a2 a3
    subst a1
    subst a3
    obtain ⟨g, rfl, hg1, hg2, hc⟩ := h9 (by omega)
    have HS := hide hs
    have HL := hide hl
    clear hs h9 hc hl a2 hg2
    go_enter Try.func12, Try.ntmps12
    go_wp2
    go_loopw [1, 5] (fun s t W => ∃ (i : Nat) (l : List Ft), s = .int .i64 ((c : Int) + 15 * (i : Int)) ∧ t = .int .i64 (i : Int) ∧ i ≤ n ∧ l.length = n ∧ (∀ j, j < i → l[j]? = some (mkF c j)) ∧ W.ownsRow B 57 15 (.slice (some ⟨g, 0, none⟩) n cu) n (flatG ftc l) ∧ Mw g w W) (fun _ s _ => n - (intOf s).toNat)
    case atStart => exact ⟨0, fs, by simp, rfl, Nat.zero_le _, unhide HL, fun j hj => by omega, unhide HS, Mw.refl _ _⟩
    case round =>
      clear HS HL fs
      obtain ⟨i, l, rfl, rfl, hi, hl, hmk, hown, hw⟩ := hrel
      have HO := hide hown
      have HW := hide hw
      have HL := hide hl
      have HMK := hide hmk
      clear hown hw hl hmk
      by_cases h : i < n
      · have i1 : (i : Int) < (n : Int) := by omega
        have i0 : (0 : Int) ≤ (i : Int) := Int.natCast_nonneg _
        have iz : decide ((i : Int) < (n : Int)) = true := decide_eq_true i1
        have K0 := hide (fun W => mkText_any (c + 15 * i) W (by omega) (by omega))
        have K1 := hide (fun W => mkText_any (c + 15 * i + 1) W (by omega) (by omega))
        have K2 := hide (fun W => mkText_any (c + 15 * i + 2) W (by omega) (by omega))
        rw [show (((c + 15 * i : Nat) : Int)) = (c : Int) + 15 * (i : Int) by omega] at K0
        rw [show (((c + 15 * i + 1 : Nat) : Int)) = (c : Int) + 15 * (i : Int) + 1 by omega] at K1
        rw [show (((c + 15 * i + 2 : Nat) : Int)) = (c : Int) + 15 * (i : Int) + 1 + 1 by omega] at K2
        have HMF : Hid (mkF c i = ⟨mkT (c + 15 * i), mkT (c + 15 * i + 1), mkT (c + 15 * i + 2), (c : Int) + 15 * (i : Int) + 1 + 1 + 1, (c : Int) + 15 * (i : Int) + 1 + 1 + 1 + 1, (c : Int) + 15 * (i : Int) + 1 + 1 + 1 + 1 + 1, (c : Int) + 15 * (i : Int) + 1 + 1 + 1 + 1 + 1 + 1, (c : Int) + 15 * (i : Int) + 1 + 1 + 1 + 1 + 1 + 1 + 1, (c : Int) + 15 * (i : Int) + 1 + 1 + 1 + 1 + 1 + 1 + 1 + 1, (c : Int) + 15 * (i : Int) + 1 + 1 + 1 + 1 + 1 + 1 + 1 + 1 + 1, (c : Int) + 15 * (i : Int) + 1 + 1 + 1 + 1 + 1 + 1 + 1 + 1 + 1 + 1, (c : Int) + 15 * (i : Int) + 1 + 1 + 1 + 1 + 1 + 1 + 1 + 1 + 1 + 1 + 1, (c : Int) + 15 * (i : Int) + 1 + 1 + 1 + 1 + 1 + 1 + 1 + 1 + 1 + 1 + 1 + 1, (c : Int) + 15 * (i : Int) + 1 + 1 + 1 + 1 + 1 + 1 + 1 + 1 + 1 + 1 + 1 + 1 + 1, (c : Int) + 15 * (i : Int) + 1 + 1 + 1 + 1 + 1 + 1 + 1 + 1 + 1 + 1 + 1 + 1 + 1 + 1⟩) := hide rfl
        generalize mkT (c + 15 * i) = s0 at *
        generalize mkT (c + 15 * i + 1) = s1 at *
        generalize mkT (c + 15 * i + 2) = s2 at *
        have HS0 := hide (Nat.le_trans hB (unhide HW).size)
        go_wp2_with fail
        refine (unhide K0 _).mono ?_
        rintro e W1 ⟨rfl, hb1⟩
        have pb1 := own_bel (unhide HO) hb1
        have HW1 := hide ((unhide HW).bel hb1)
        obtain ⟨v0, e0⟩ := ocell pb1 h (j := 0) (by omega)
        rw [Nat.add_zero] at e0
        have fz1 : ∀ q, W1.frozen? ⟨g, q, none⟩ = false := own_frz pb1
        have P1 := hide (own_set pb1 (i * 15) (.string s0))
        have HS1 := hide (Nat.le_trans (unhide HS0) hb1.size)
        have HV1 : Hid (Mw g w (W1.setCell ⟨g, i * 15, none⟩ (.string s0))) := hide (Mw.set (unhide HW1) _ _)
        clear hb1 pb1
        go_wp2_with fail
        refine (unhide K1 _).mono ?_
        rintro e W2 ⟨rfl, hb2⟩
        have pb2 := own_bel (unhide P1) hb2
        have HW2 := hide ((unhide HV1).bel hb2)
        obtain ⟨v1, e1⟩ := ocell pb2 h (j := 1) (by omega)
        have fz2 : ∀ q, W2.frozen? ⟨g, q, none⟩ = false := own_frz pb2
        have P2 := hide (own_set pb2 (i * 15 + 1) (.string s1))
        have HS2 : Hid (B ≤ W2.heap.size) := hide (Nat.le_trans (unhide HS1) (by have := hb2.size; simpa [World.setCell] using this))
        have HV2 : Hid (Mw g w (W2.setCell ⟨g, i * 15 + 1, none⟩ (.string s1))) := hide (Mw.set (unhide HW2) _ _)
        clear hb2 pb2 e0 fz1
        go_wp2_with fail
        refine (unhide K2 _).mono ?_
        rintro e W3 ⟨rfl, hb3⟩
        have pb3 := own_bel (unhide P2) hb3
        have HW3 := hide ((unhide HV2).bel hb3)
        obtain ⟨v2, e2⟩ := ocell pb3 h (j := 2) (by omega)
        obtain ⟨v3, e3⟩ := ocell pb3 h (j := 3) (by omega)
        obtain ⟨v4, e4⟩ := ocell pb3 h (j := 4) (by omega)
        obtain ⟨v5, e5⟩ := ocell pb3 h (j := 5) (by omega)
        obtain ⟨v6, e6⟩ := ocell pb3 h (j := 6) (by omega)
        obtain ⟨v7, e7⟩ := ocell pb3 h (j := 7) (by omega)
        obtain ⟨v8, e8⟩ := ocell pb3 h (j := 8) (by omega)
        obtain ⟨v9, e9⟩ := ocell pb3 h (j := 9) (by omega)
        obtain ⟨v10, e10⟩ := ocell pb3 h (j := 10) (by omega)
        obtain ⟨v11, e11⟩ := ocell pb3 h (j := 11) (by omega)
        obtain ⟨v12, e12⟩ := ocell pb3 h (j := 12) (by omega)
        obtain ⟨v13, e13⟩ := ocell pb3 h (j := 13) (by omega)
        obtain ⟨v14, e14⟩ := ocell pb3 h (j := 14) (by omega)
        have fz3 : ∀ q, W3.frozen? ⟨g, q, none⟩ = false := own_frz pb3
        have P3 := hide pb3
        clear hb3 pb3 e1 fz2
        go_wp2_with fail
        go_roundw
        case rel =>
          refine ⟨i + 1, l.set i (mkF c i), by simp only [Value.int.injEq, true_and]; omega, by simp, h, by rw [List.length_set]; exact unhide HL, ?_, own_eq (own_set (own_set (own_set (own_set (own_set (own_set (own_set (own_set (own_set (own_set (own_set (own_set (own_set (unhide P3) (i * 15 + 2) _) (i * 15 + 3) _) (i * 15 + 4) _) (i * 15 + 5) _) (i * 15 + 6) _) (i * 15 + 7) _) (i * 15 + 8) _) (i * 15 + 9) _) (i * 15 + 10) _) (i * 15 + 11) _) (i * 15 + 12) _) (i * 15 + 13) _) (i * 15 + 14) _) ?_, Mw.set (Mw.set (Mw.set (Mw.set (Mw.set (Mw.set (Mw.set (Mw.set (Mw.set (Mw.set (Mw.set (Mw.set (Mw.set (unhide HW3) _ _) _ _) _ _) _ _) _ _) _ _) _ _) _ _) _ _) _ _) _ _) _ _) _ _⟩
          · intro j hj
            by_cases e : j = i
            · subst e
              exact List.getElem?_set_self (by rw [unhide HL]; exact h)
            · rw [List.getElem?_set_ne (fun q => e q.symm)]
              exact unhide HMK j (by omega)
          · rw [flatG_set ftc_len l i _ (by rw [unhide HL]; exact h), unhide HMF]
            rfl
        case measure => simp only [intOf]; omega
      · have i1 : ¬ (i : Int) < (n : Int) := by omega
        have iz : decide ((i : Int) < (n : Int)) = false := decide_eq_false i1
        have en : i = n := by omega
        subst en
        have hfin : l = mkFs c i := by
          refine List.ext_getElem? fun j => ?_
          by_cases hj : j < i
          · rw [unhide HMK j hj, mkFs_at c i j hj]
          · rw [List.getElem?_eq_none (by rw [unhide HL]; omega), List.getElem?_eq_none (by rw [mkFs_len]; omega)]
        have HFIN := hide hfin
        clear hfin
        go_wp2_with fail
        go_ret
        refine ⟨rfl, ?_, (by first | exact unhide HW | exact ⟨hg1, unhide HW⟩ | exact ⟨fun h => absurd h hn0, fun _ => ⟨g, rfl, hg1, unhide HW⟩⟩)⟩
        rw [← unhide HFIN]
        exact unhide HO
end Go.Proofs.Ytkkmikgeppkhiaa

namespace Go.Proofs.Ytkkmikgeppkhiaa
open Go.ChangeShapes Go.WideShapes Go.ChangeAt Go.RowKit
set_option linter.unusedVariables false
set_option linter.unusedSimpArgs false

set_option maxHeartbeats 2000000 in
theorem st_szq (q : Int) (q0 : 0 ≤ q) (q1 : q ≤ 1048576) (u : Option Addr) (n cu : Nat) (l : List ByteArray) (w : World) (hl : l.length = n) (hn : n ≤ 9223372036854775807) (hs : ∀ s ∈ l, s.size ≤ maxLen) (hu : StAt w u l) :
    Calls Try.prog 21 #[.slice u n cu, .int .i64 q] w fun e w' => (∃ r : Int, e = .returned (.int .i64 r) ∧ (0 ≤ r → n ≤ 1048576 ∧ r ≤ 1048576)) ∧ w' = w := by
  have HU := hide hu
  have HL := hide hl
  have HS := hide hs
  clear hu hl hs
  have n0 : (0 : Int) ≤ (n : Int) := Int.natCast_nonneg _
  have wq : IntKind.i64.wrap (q - (n : Int)) = q - (n : Int) := wrap_i (by omega) (by omega)
  by_cases hb : (n : Int) ≤ q
  · have t : decide (q - (n : Int) < 0) = false := decide_eq_false (by omega)
    have t' : ¬ (q - (n : Int) < 0) := by omega
    go_enter Try.func21, Try.ntmps21
    go_wp2
    go_loopw [1, 5] (fun qq s W => ∃ (i : Nat) (r : Int), qq = .int .i64 r ∧ 0 ≤ r ∧ r ≤ 1048576 ∧ s = .int .i64 (i : Int) ∧ i ≤ n ∧ W = w) (fun _ s _ => n - (intOf s).toNat)
    case atStart => exact ⟨0, _, rfl, by omega, by omega, rfl, Nat.zero_le _, rfl⟩
    case round =>
      obtain ⟨i, r, rfl, hr0, hr1, rfl, hi, hw⟩ := hrel
      subst hw
      by_cases h : i < n
      · have i1 : (i : Int) < (n : Int) := by omega
        have i0 : (0 : Int) ≤ (i : Int) := Int.natCast_nonneg _
        have iz : decide ((i : Int) < (n : Int)) = true := decide_eq_true i1
        obtain ⟨s, hx⟩ := get_some (unhide HL) h
        have hne : l ≠ [] := by intro e; subst e; cases hx
        obtain ⟨g, o, rfl, _, hc⟩ := (unhide HU) hne
        have k0 := hc i s hx
        have hss := unhide HS s (List.mem_of_getElem? hx)
        unfold maxLen at hss
        have wr1 : IntKind.i64.wrap (r - (s.size : Int)) = r - (s.size : Int) := wrap_i (by omega) (by omega)
        clear hx hc hne
        by_cases hz : r - (s.size : Int) < 0
        · have hzd : decide (r - (s.size : Int) < 0) = true := decide_eq_true hz
          go_wp2_with fail
          go_ret
          exact ⟨⟨-1, rfl, fun h => by omega⟩, rfl⟩
        · have hzd : decide (r - (s.size : Int) < 0) = false := decide_eq_false hz
          go_wp2_with fail
          go_roundw
          case rel => exact ⟨i + 1, r - (s.size : Int), rfl, by omega, by omega, by simp, h, by first | rfl | trivial⟩
          case measure => simp only [intOf]; omega
      · have i1 : ¬ (i : Int) < (n : Int) := by omega
        have iz : decide ((i : Int) < (n : Int)) = false := decide_eq_false i1
        go_wp2_with fail
        go_ret
        exact ⟨⟨_, rfl, fun _ => ⟨by omega, by omega⟩⟩, rfl⟩
  · have t : decide (q - (n : Int) < 0) = true := decide_eq_true (by omega)
    have t' : q - (n : Int) < 0 := by omega
    go_enter Try.func21, Try.ntmps21
    go_wp2
    go_ret
    exact ⟨⟨-1, rfl, fun h => by omega⟩, rfl⟩
set_option maxHeartbeats 2000000 in
theorem st_to (u : Option Addr) (n cu : Nat) (l : List ByteArray) (w : World) (hl : l.length = n) (hn : n ≤ 1048576) (hu : StAt w u l) :
    Calls Try.prog 23 #[.slice u n cu] w fun e w' => (∃ g, e = .returned (.slice (some ⟨g, 0, none⟩) n n) ∧ w.heap.size ≤ g ∧ vb w' g 9 (strs l)) ∧ Below w.heap.size w w' := by
  have HU := hide hu
  have HL := hide hl
  have hmk := fun W => make_vals (P := Try.prog) 34 9 16 n (.string ⟨#[]⟩) rfl Try.underlying34 info9 (by omega) (by omega) W
  clear hu hl
  generalize hZ : List.replicate n (Value.string ⟨#[]⟩) = Z at hmk
  have HZ : Hid (Z.length = n) := hide (by rw [← hZ]; simp)
  clear hZ
  go_enter Try.func23, Try.ntmps23
  go_wp2_with fail
  go_loopw [4] (fun s W => ∃ (i : Nat) (L : List Value), s = .int .i64 (i : Int) ∧ i ≤ n ∧ L.length = n ∧ L.take i = (strs l).take i ∧ vb W w.heap.size 9 L ∧ Below w.heap.size w W) (fun s _ => n - (intOf s).toNat)
  case atStart => exact ⟨0, Z, rfl, Nat.zero_le _, unhide HZ, by simp, vb_new w 9 Z _ rfl, ba (Below.refl _ _) _⟩
  case round =>
    obtain ⟨i, L, rfl, hi, hlen, htk, hv, hw⟩ := hrel
    have HV := hide hv
    have HW := hide hw
    have HLN := hide hlen
    have HTK := hide htk
    by_cases h : i < n
    · have i1 : (i : Int) < (n : Int) := by omega
      have i0 : (0 : Int) ≤ (i : Int) := Int.natCast_nonneg _
      have iz : decide ((i : Int) < (n : Int)) = true := decide_eq_true i1
      obtain ⟨s, hx⟩ := get_some (unhide HL) h
      have hne : l ≠ [] := by intro e; subst e; cases hx
      obtain ⟨g, o, rfl, hgl, hc⟩ := ((unhide HU).bel hw) hne
      have k0 := hc i s hx
      have hil : i < L.length := by rw [hlen]; exact h
      have e0 : wr.cell? ⟨w.heap.size, i, none⟩ = some L[i] := hv.cell (List.getElem?_eq_getElem hil)
      have fz : ∀ q, wr.frozen? ⟨w.heap.size, q, none⟩ = false := hv.frozen
      have HS := hide (hv.set i (.string s))
      have HWS : Hid (Below w.heap.size w (wr.setCell ⟨w.heap.size, i, none⟩ (.string s))) := hide (Below.setCell hw (Nat.le_refl _) _)
      have HT2 : Hid ((L.set i (.string s)).take (i + 1) = (strs l).take (i + 1)) := hide (by
        have hx2 : (strs l)[i]? = some (.string s) := by simp [strs, hx]
        rw [List.take_add_one, List.take_add_one, List.take_set_of_le (Nat.le_refl _), htk, hx2, List.getElem?_set_self hil])
      generalize L[i] = x0 at *
      clear hx hc hne hil hlen htk hv hw
      go_wp2_with fail
      go_roundw
      case rel => exact ⟨i + 1, L.set i (.string s), by simp, h, by rw [List.length_set]; exact unhide HLN, unhide HT2, unhide HS, unhide HWS⟩
      case measure => simp only [intOf]; omega
    · have i1 : ¬ (i : Int) < (n : Int) := by omega
      have iz : decide ((i : Int) < (n : Int)) = false := decide_eq_false i1
      have HE : Hid (L = strs l) := hide (by
        rw [List.take_of_length_le (by omega), List.take_of_length_le (by simp [strs]; rw [unhide HL]; omega)] at htk
        exact htk)
      clear hlen htk hv hw
      go_wp2_with fail
      go_ret
      exact ⟨⟨_, rfl, Nat.le_refl _, by rw [← unhide HE]; exact unhide HV⟩, unhide HW⟩
end Go.Proofs.Ytkkmikgeppkhiaa

namespace Go.Proofs.Ytkkmikgeppkhiaa
open Go.ChangeShapes Go.WideShapes Go.ChangeAt Go.RowKit Go.Deep
set_option linter.unusedVariables false
set_option linter.unusedSimpArgs false

theorem addr_add_none (p po j : Nat) : (⟨p, po, none⟩ : Addr).add j = ⟨p, po + j, none⟩ := by
  unfold Addr.add
  split <;> simp_all
def bytesOf : Value → ByteArray
  | .string s => s
  | _ => ByteArray.empty
theorem one_at {cs : List Value} {o : Nat} {v : Value} (h : (cs.drop o).take 1 = [v]) : cs[o]? = some v := by
  have h5 : ((cs.drop o).take 1)[0]? = some v := by rw [h]; rfl
  simpa [List.getElem?_take, List.getElem?_drop] using h5
theorem cells3 : Try.prog.cellsOf 3 = 1 := by kernel_rfl
theorem cells9 : Try.prog.cellsOf 9 = 1 := by kernel_rfl
theorem cells39 : Try.prog.cellsOf 46 = 6 := by kernel_rfl
theorem cells41 : Try.prog.cellsOf 48 = 15 := by kernel_rfl
theorem open_fts {H : Type} {enc : TypeId × Value → H} {w : World} {base : Nat} {spare : Nat → Bool} {held : Bool} {fuel : Nat} {cs : List Value} {x : DataW H × List MemPlace}
    (h : DataW.trod enc Try.prog w base spare held fuel 22 cs = some x) :
    ∃ (u : Option Addr) (n cap p po : Nat) (fs : List Ft), cs = [.slice u n cap] ∧ n ≤ 9223372036854775807 ∧ fs.length = n ∧ (∀ f ∈ fs, f.nm.size ≤ maxLen ∧ f.on.size ≤ maxLen ∧ f.ov.size ≤ maxLen) ∧ SlG ftc 15 w u p po fs := by
  rcases open_slice Try.underlying22 h with ⟨rfl, _⟩ | ⟨a, len, cap, m, n, D, Pl, rfl, hb, hl, hm, hmm, _, hx⟩
  · exact ⟨none, 0, 0, 0, 0, [], rfl, by omega, rfl, by simp, fun h => absurd rfl h⟩
  have hlm : len ≤ m := by rw [hmm]; split <;> omega
  have each : ∀ i, i < len → ∃ f : Ft, (f.nm.size ≤ maxLen ∧ f.on.size ≤ maxLen ∧ f.ov.size ≤ maxLen) ∧ ∀ (j : Nat) (v : Value), (ftc f)[j]? = some v → w.cell? (a.add (i * 15 + j)) = some v := by
    intro i hi
    obtain ⟨cs', h1, h2⟩ := hx i (by omega)
    rw [cells41] at h1
    obtain ⟨_, hlen, hcell⟩ := World.cells?_some h1
    obtain ⟨xs, q, _, _, _, hxl, hff⟩ := DataW.trod_struct Try.underlying48 h2
    have hxl' : xs.length = 10 := by simpa using hxl
    have g : ∀ j, j < 10 → ∃ y, xs[j]? = some y := fun j hj => ⟨xs[j]'(by omega), List.getElem?_eq_getElem _⟩
    obtain ⟨q0, e0⟩ := g 0 (by omega)
    have t0 : DataW.trod enc Try.prog w base spare held q 9 ((cs'.drop 0).take (Try.prog.cellsOf 9)) = xs[0]? := hff 0 _ rfl
    rw [e0] at t0
    obtain ⟨a0, hy0, _, hs0⟩ := DataW.trod_string Try.underlying9 t0
    rw [cells9] at hy0
    have c0 := one_at hy0
    obtain ⟨q1, e1⟩ := g 1 (by omega)
    have t1 : DataW.trod enc Try.prog w base spare held q 9 ((cs'.drop 1).take (Try.prog.cellsOf 9)) = xs[1]? := hff 1 _ rfl
    rw [e1] at t1
    obtain ⟨a1, hy1, _, hs1⟩ := DataW.trod_string Try.underlying9 t1
    rw [cells9] at hy1
    have c1 := one_at hy1
    obtain ⟨q2, e2⟩ := g 2 (by omega)
    have t2 : DataW.trod enc Try.prog w base spare held q 9 ((cs'.drop 2).take (Try.prog.cellsOf 9)) = xs[2]? := hff 2 _ rfl
    rw [e2] at t2
    obtain ⟨a2, hy2, _, hs2⟩ := DataW.trod_string Try.underlying9 t2
    rw [cells9] at hy2
    have c2 := one_at hy2
    obtain ⟨q3, e3⟩ := g 3 (by omega)
    have t3 : DataW.trod enc Try.prog w base spare held q 3 ((cs'.drop 3).take (Try.prog.cellsOf 3)) = xs[3]? := hff 3 _ rfl
    rw [e3] at t3
    obtain ⟨b3, hy3, _, _⟩ := DataW.trod_int Try.underlying3 t3
    rw [cells3] at hy3
    have c3 := one_at hy3
    obtain ⟨q4, e4⟩ := g 4 (by omega)
    have t4 : DataW.trod enc Try.prog w base spare held q 3 ((cs'.drop 4).take (Try.prog.cellsOf 3)) = xs[4]? := hff 4 _ rfl
    rw [e4] at t4
    obtain ⟨b4, hy4, _, _⟩ := DataW.trod_int Try.underlying3 t4
    rw [cells3] at hy4
    have c4 := one_at hy4
    obtain ⟨q6, e6⟩ := g 6 (by omega)
    have t6 : DataW.trod enc Try.prog w base spare held q 3 ((cs'.drop 11).take (Try.prog.cellsOf 3)) = xs[6]? := hff 6 _ rfl
    rw [e6] at t6
    obtain ⟨b11, hy6, _, _⟩ := DataW.trod_int Try.underlying3 t6
    rw [cells3] at hy6
    have c11 := one_at hy6
    obtain ⟨q7, e7⟩ := g 7 (by omega)
    have t7 : DataW.trod enc Try.prog w base spare held q 3 ((cs'.drop 12).take (Try.prog.cellsOf 3)) = xs[7]? := hff 7 _ rfl
    rw [e7] at t7
    obtain ⟨b12, hy7, _, _⟩ := DataW.trod_int Try.underlying3 t7
    rw [cells3] at hy7
    have c12 := one_at hy7
    obtain ⟨q8, e8⟩ := g 8 (by omega)
    have t8 : DataW.trod enc Try.prog w base spare held q 3 ((cs'.drop 13).take (Try.prog.cellsOf 3)) = xs[8]? := hff 8 _ rfl
    rw [e8] at t8
    obtain ⟨b13, hy8, _, _⟩ := DataW.trod_int Try.underlying3 t8
    rw [cells3] at hy8
    have c13 := one_at hy8
    obtain ⟨q9, e9⟩ := g 9 (by omega)
    have t9 : DataW.trod enc Try.prog w base spare held q 3 ((cs'.drop 14).take (Try.prog.cellsOf 3)) = xs[9]? := hff 9 _ rfl
    rw [e9] at t9
    obtain ⟨b14, hy9, _, _⟩ := DataW.trod_int Try.underlying3 t9
    rw [cells3] at hy9
    have c14 := one_at hy9
    obtain ⟨q5, e5⟩ := g 5 (by omega)
    have t5 : DataW.trod enc Try.prog w base spare held q 46 ((cs'.drop 5).take (Try.prog.cellsOf 46)) = xs[5]? := hff 5 _ rfl
    rw [e5] at t5
    obtain ⟨ys, r, _, _, _, hyl, hgg⟩ := DataW.trod_struct Try.underlying46 t5
    have hyl' : ys.length = 6 := by simpa using hyl
    have g6 : ∀ j, j < 6 → ∃ y, ys[j]? = some y := fun j hj => ⟨ys[j]'(by omega), List.getElem?_eq_getElem _⟩
    obtain ⟨p0, f0⟩ := g6 0 (by omega)
    have s0 : DataW.trod enc Try.prog w base spare held r 3 ((((cs'.drop 5).take (Try.prog.cellsOf 46)).drop 0).take (Try.prog.cellsOf 3)) = ys[0]? := hgg 0 _ rfl
    rw [f0] at s0
    obtain ⟨d0, hz0, _, _⟩ := DataW.trod_int Try.underlying3 s0
    rw [cells3, cells39] at hz0
    have c5 : cs'[5]? = some (.int .i64 d0) := by
      have h7 := one_at hz0
      rw [List.getElem?_take, if_pos (by omega), List.getElem?_drop] at h7
      exact h7
    obtain ⟨p1, f1⟩ := g6 1 (by omega)
    have s1 : DataW.trod enc Try.prog w base spare held r 3 ((((cs'.drop 5).take (Try.prog.cellsOf 46)).drop 1).take (Try.prog.cellsOf 3)) = ys[1]? := hgg 1 _ rfl
    rw [f1] at s1
    obtain ⟨d1, hz1, _, _⟩ := DataW.trod_int Try.underlying3 s1
    rw [cells3, cells39] at hz1
    have c6 : cs'[6]? = some (.int .i64 d1) := by
      have h7 := one_at hz1
      rw [List.getElem?_take, if_pos (by omega), List.getElem?_drop] at h7
      exact h7
    obtain ⟨p2, f2⟩ := g6 2 (by omega)
    have s2 : DataW.trod enc Try.prog w base spare held r 3 ((((cs'.drop 5).take (Try.prog.cellsOf 46)).drop 2).take (Try.prog.cellsOf 3)) = ys[2]? := hgg 2 _ rfl
    rw [f2] at s2
    obtain ⟨d2, hz2, _, _⟩ := DataW.trod_int Try.underlying3 s2
    rw [cells3, cells39] at hz2
    have c7 : cs'[7]? = some (.int .i64 d2) := by
      have h7 := one_at hz2
      rw [List.getElem?_take, if_pos (by omega), List.getElem?_drop] at h7
      exact h7
    obtain ⟨p3, f3⟩ := g6 3 (by omega)
    have s3 : DataW.trod enc Try.prog w base spare held r 3 ((((cs'.drop 5).take (Try.prog.cellsOf 46)).drop 3).take (Try.prog.cellsOf 3)) = ys[3]? := hgg 3 _ rfl
    rw [f3] at s3
    obtain ⟨d3, hz3, _, _⟩ := DataW.trod_int Try.underlying3 s3
    rw [cells3, cells39] at hz3
    have c8 : cs'[8]? = some (.int .i64 d3) := by
      have h7 := one_at hz3
      rw [List.getElem?_take, if_pos (by omega), List.getElem?_drop] at h7
      exact h7
    obtain ⟨p4, f4⟩ := g6 4 (by omega)
    have s4 : DataW.trod enc Try.prog w base spare held r 3 ((((cs'.drop 5).take (Try.prog.cellsOf 46)).drop 4).take (Try.prog.cellsOf 3)) = ys[4]? := hgg 4 _ rfl
    rw [f4] at s4
    obtain ⟨d4, hz4, _, _⟩ := DataW.trod_int Try.underlying3 s4
    rw [cells3, cells39] at hz4
    have c9 : cs'[9]? = some (.int .i64 d4) := by
      have h7 := one_at hz4
      rw [List.getElem?_take, if_pos (by omega), List.getElem?_drop] at h7
      exact h7
    obtain ⟨p5, f5⟩ := g6 5 (by omega)
    have s5 : DataW.trod enc Try.prog w base spare held r 3 ((((cs'.drop 5).take (Try.prog.cellsOf 46)).drop 5).take (Try.prog.cellsOf 3)) = ys[5]? := hgg 5 _ rfl
    rw [f5] at s5
    obtain ⟨d5, hz5, _, _⟩ := DataW.trod_int Try.underlying3 s5
    rw [cells3, cells39] at hz5
    have c10 : cs'[10]? = some (.int .i64 d5) := by
      have h7 := one_at hz5
      rw [List.getElem?_take, if_pos (by omega), List.getElem?_drop] at h7
      exact h7
    refine ⟨⟨a0, a1, a2, b3, b4, d0, d1, d2, d3, d4, d5, b11, b12, b13, b14⟩, ⟨hs0, hs1, hs2⟩, fun j v hj => ?_⟩
    have hjl : j < 15 := by have := (List.getElem?_eq_some_iff.1 hj).1; rw [ftc_len] at this; exact this
    have hcs : cs'[j]? = some v := by
      rw [← hj]
      match j, hjl with
      | 0, _ => exact c0
      | 1, _ => exact c1
      | 2, _ => exact c2
      | 3, _ => exact c3
      | 4, _ => exact c4
      | 5, _ => exact c5
      | 6, _ => exact c6
      | 7, _ => exact c7
      | 8, _ => exact c8
      | 9, _ => exact c9
      | 10, _ => exact c10
      | 11, _ => exact c11
      | 12, _ => exact c12
      | 13, _ => exact c13
      | 14, _ => exact c14
    rw [← hcs, ← hcell j hjl, add_add]
  have hmx : len ≤ 9223372036854775807 := by unfold maxLen at hm; omega
  by_cases hn : len = 0
  · subst hn
    exact ⟨some a, 0, cap, 0, 0, [], rfl, by omega, rfl, by simp, fun h => absurd rfl h⟩
  obtain ⟨p, po, sp⟩ := a
  have hsp : sp = none := by
    obtain ⟨f, _, hy⟩ := each 0 (by omega)
    have hy := hy 0 _ rfl
    cases sp with
    | none => rfl
    | some s =>
      simp only [Addr.add, World.cell?] at hy
      split at hy <;> simp at hy
  subst hsp
  have hex : ∃ fs : List Ft, fs.length = len ∧ (∀ f ∈ fs, f.nm.size ≤ maxLen ∧ f.on.size ≤ maxLen ∧ f.ov.size ≤ maxLen) ∧ ∀ (i : Nat) (f : Ft), fs[i]? = some f → ∀ (j : Nat) (v : Value), (ftc f)[j]? = some v → w.cell? ((⟨p, po, none⟩ : Addr).add (i * 15 + j)) = some v := by
    have : ∀ k, k ≤ len → ∃ fs : List Ft, fs.length = k ∧ (∀ f ∈ fs, f.nm.size ≤ maxLen ∧ f.on.size ≤ maxLen ∧ f.ov.size ≤ maxLen) ∧ ∀ (i : Nat) (f : Ft), fs[i]? = some f → ∀ (j : Nat) (v : Value), (ftc f)[j]? = some v → w.cell? ((⟨p, po, none⟩ : Addr).add (i * 15 + j)) = some v := by
      intro k
      induction k with
      | zero => intro _; exact ⟨[], rfl, by simp, by simp⟩
      | succ k ih =>
        intro hk
        obtain ⟨fs, h1, h2, h3⟩ := ih (by omega)
        obtain ⟨f, h4, h5⟩ := each k (by omega)
        refine ⟨fs ++ [f], by simp [h1], ?_, ?_⟩
        · intro x hx
          rcases List.mem_append.1 hx with e | e
          · exact h2 x e
          · simp only [List.mem_singleton] at e; subst e; exact h4
        · intro i x hi j v hj
          by_cases e : i < k
          · rw [List.getElem?_append_left (by omega)] at hi
            exact h3 i x hi j v hj
          · rw [List.getElem?_append_right (by omega)] at hi
            have e0 : i - fs.length = 0 := by
              rcases Nat.eq_zero_or_pos (i - fs.length) with e | e
              · exact e
              · rw [List.getElem?_eq_none (by simp; omega)] at hi; cases hi
            rw [e0] at hi
            cases hi
            have ei : i = k := by omega
            subst ei
            exact h5 j v hj
    exact this len (Nat.le_refl _)
  obtain ⟨fs, h1, h2, h3⟩ := hex
  refine ⟨_, len, cap, p, po, fs, rfl, hmx, h1, h2, fun _ => ⟨rfl, ?_, ?_⟩⟩
  · obtain ⟨f, _, h0⟩ := each 0 (by omega)
    have h0 := h0 0 _ rfl
    rw [addr_add_none] at h0
    exact cell_lt h0
  · intro i f hi j v hj
    have := h3 i f hi j v hj
    rw [addr_add_none, ← Nat.add_assoc] at this
    exact this
end Go.Proofs.Ytkkmikgeppkhiaa

namespace Go.Proofs.Ytkkmikgeppkhiaa
open Go.ChangeShapes Go.WideShapes Go.ChangeAt Go.RowKit Go.Deep
set_option linter.unusedVariables false
set_option linter.unusedSimpArgs false

theorem open_sts {H : Type} {enc : TypeId × Value → H} {w : World} {base : Nat} {spare : Nat → Bool} {held : Bool} {fuel : Nat} {cs : List Value} {x : DataW H × List MemPlace}
    (h : DataW.trod enc Try.prog w base spare held fuel 34 cs = some x) :
    ∃ (u : Option Addr) (n cap p po : Nat) (l : List ByteArray), cs = [.slice u n cap] ∧ n ≤ 9223372036854775807 ∧ l.length = n ∧ (∀ s ∈ l, s.size ≤ maxLen) ∧ StAt w u l := by
  rcases open_strs Try.underlying34 Try.underlying9 cells9 h with ⟨rfl, _⟩ | ⟨a, len, cap, m, Sx, rfl, hb, hl, hm, hmm, _, hx⟩
  · exact ⟨none, 0, 0, 0, 0, [], rfl, by omega, rfl, by simp, fun h => absurd rfl h⟩
  have hlm : len ≤ m := by rw [hmm]; split <;> omega
  refine ⟨_, len, cap, 0, 0, (List.range len).map Sx, rfl, ?_, by simp, ?_, ?_⟩
  · unfold maxLen at hm; omega
  · intro s hs
    obtain ⟨i, hi, rfl⟩ := List.mem_map.1 hs
    exact (hx i (by have := List.mem_range.1 hi; omega)).2
  · intro h0
    have hl0 : 0 < len := by
      rcases Nat.eq_zero_or_pos len with e | e
      · subst e; exact (h0 (by simp)).elim
      · exact e
    obtain ⟨p, po, sp⟩ := a
    have hsp : sp = none := by
      have hy := (hx 0 (by omega)).1
      cases sp with
      | none => rfl
      | some s =>
        simp only [Addr.add, World.cell?] at hy
        split at hy <;> simp at hy
    subst hsp
    refine ⟨p, po, rfl, ?_, ?_⟩
    · have hy := (hx 0 (by omega)).1
      rw [addr_add_none] at hy
      exact cell_lt hy
    · intro i s hi
      rw [List.getElem?_map] at hi
      obtain ⟨j, hj, rfl⟩ := Option.map_eq_some_iff.1 hi
      have hjl := (List.getElem?_eq_some_iff.1 hj)
      obtain ⟨hjl, ej⟩ := hjl
      rw [List.getElem_range] at ej
      subst ej
      have hy := (hx i (by have := hjl; rw [List.length_range] at this; omega)).1
      rw [addr_add_none] at hy
      exact hy
end Go.Proofs.Ytkkmikgeppkhiaa

namespace Go.Proofs.Ytkkmikgeppkhiaa
open Go.ChangeShapes Go.WideShapes Go.ChangeAt Go.RowKit
set_option linter.unusedVariables false
set_option linter.unusedSimpArgs false

theorem bxE_one (x0 y0 z0 x1 y1 z1 : Int) (w : World) : Calls Try.prog 58 #[.agg #[.int .i64 x0, .int .i64 y0, .int .i64 z0, .int .i64 x1, .int .i64 y1, .int .i64 z1], .agg #[.int .i64 x0, .int .i64 y0, .int .i64 z0, .int .i64 x1, .int .i64 y1, .int .i64 z1]] w fun e w' => e = .returned (.bool true) ∧ Below w.heap.size w w' := by
  go_enter Try.func58, Try.ntmps58
  go_wp2
  go_ret
  exact ⟨rfl, ba (ba (Below.refl _ _) _) _⟩
set_option maxRecDepth 100000 in
set_option maxHeartbeats 1000000 in
theorem ftE_one (s o v : ByteArray) (k d x0 y0 z0 x1 y1 z1 ct dx dy dz : Int) (w : World) : Calls Try.prog 36 #[.agg #[.string s, .string o, .string v, .int .i64 k, .int .i64 d, .int .i64 x0, .int .i64 y0, .int .i64 z0, .int .i64 x1, .int .i64 y1, .int .i64 z1, .int .i64 ct, .int .i64 dx, .int .i64 dy, .int .i64 dz], .agg #[.string s, .string o, .string v, .int .i64 k, .int .i64 d, .int .i64 x0, .int .i64 y0, .int .i64 z0, .int .i64 x1, .int .i64 y1, .int .i64 z1, .int .i64 ct, .int .i64 dx, .int .i64 dy, .int .i64 dz]] w fun e w' => e = .returned (.bool true) ∧ Below w.heap.size w w' := by
  have HB := hide (fun W => bxE_one x0 y0 z0 x1 y1 z1 W)
  have V1 := hide ((vb_new w 57 (ftc ⟨s, o, v, k, d, x0, y0, z0, x1, y1, z1, ct, dx, dy, dz⟩) _ rfl).bel (ba (Below.refl _ _) (.cells (ftc ⟨s, o, v, k, d, x0, y0, z0, x1, y1, z1, ct, dx, dy, dz⟩).toArray 57)))
  have V2 := hide (vb_new (w.alloc (.cells (ftc ⟨s, o, v, k, d, x0, y0, z0, x1, y1, z1, ct, dx, dy, dz⟩).toArray 57)) 57 (ftc ⟨s, o, v, k, d, x0, y0, z0, x1, y1, z1, ct, dx, dy, dz⟩) _ rfl)
  simp only [World.size_alloc] at V2
  go_enter Try.func36, Try.ntmps36
  go_wp2_with fail
  refine (unhide HB _).mono ?_
  rintro e W1 ⟨rfl, hb⟩
  have a1 := ((unhide V1).bel hb).cell (m := 11) rfl
  have a2 := ((unhide V1).bel hb).cell (m := 12) rfl
  have a3 := ((unhide V1).bel hb).cell (m := 13) rfl
  have a4 := ((unhide V1).bel hb).cell (m := 14) rfl
  have b1 := ((unhide V2).bel hb).cell (m := 11) rfl
  have b2 := ((unhide V2).bel hb).cell (m := 12) rfl
  have b3 := ((unhide V2).bel hb).cell (m := 13) rfl
  have b4 := ((unhide V2).bel hb).cell (m := 14) rfl
  simp only at a1 a2 a3 a4 b1 b2 b3 b4
  have HB1 := hide (bc (ba (ba (Below.refl w.heap.size w) (.cells #[.string s, .string o, .string v, .int .i64 k, .int .i64 d, .int .i64 x0, .int .i64 y0, .int .i64 z0, .int .i64 x1, .int .i64 y1, .int .i64 z1, .int .i64 ct, .int .i64 dx, .int .i64 dy, .int .i64 dz] 57)) (.cells #[.string s, .string o, .string v, .int .i64 k, .int .i64 d, .int .i64 x0, .int .i64 y0, .int .i64 z0, .int .i64 x1, .int .i64 y1, .int .i64 z1, .int .i64 ct, .int .i64 dx, .int .i64 dy, .int .i64 dz] 57)) hb)
  clear hb
  go_wp2_with fail
  go_ret
  exact ⟨rfl, unhide HB1⟩

set_option maxRecDepth 100000 in
set_option maxHeartbeats 4000000 in
theorem ft_same (u v : Option Addr) (p po q qo n cu cv : Nat) (fs : List Ft) (w : World) (hl : fs.length = n) (hn : n ≤ 1048576) (hu : SlG ftc 15 w u p po fs) (hv : SlG ftc 15 w v q qo fs) :
    Calls Try.prog 11 #[.slice u n cu, .slice v n cv] w fun e w' => e = .returned (.bool true) ∧ Below w.heap.size w w' := by
  have HU := hide hu
  have HV := hide hv
  have HL := hide hl
  clear hu hv hl
  go_enter Try.func11, Try.ntmps11
  go_wp2
  go_loopw [5] (fun s W => ∃ i : Nat, s = .int .i64 (i : Int) ∧ i ≤ n ∧ Below w.heap.size w W) (fun s _ => n - (intOf s).toNat)
  case atStart => exact ⟨0, rfl, Nat.zero_le _, Below.refl _ _⟩
  case round =>
    obtain ⟨i, rfl, hi, hw⟩ := hrel
    have HW := hide hw
    clear hw
    by_cases h : i < n
    · have i1 : (i : Int) < (n : Int) := by omega
      have i0 : (0 : Int) ≤ (i : Int) := Int.natCast_nonneg _
      have iz : decide ((i : Int) < (n : Int)) = true := decide_eq_true i1
      obtain ⟨⟨s, o, v, k, d, x0, y0, z0, x1, y1, z1, ct, dx, dy, dz⟩, hx⟩ := get_some (unhide HL) h
      obtain ⟨rfl, k0, k1, k2, k3, k4, k5, k6, k7, k8, k9, k10, k11, k12, k13, k14⟩ := ((unhide HU).bel (unhide HW)).at15 hx
      obtain ⟨rfl, l0, l1, l2, l3, l4, l5, l6, l7, l8, l9, l10, l11, l12, l13, l14⟩ := ((unhide HV).bel (unhide HW)).at15 hx
      simp only at k0 k1 k2 k3 k4 k5 k6 k7 k8 k9 k10 k11 k12 k13 k14 l0 l1 l2 l3 l4 l5 l6 l7 l8 l9 l10 l11 l12 l13 l14
      clear hx
      go_wp2_with fail
      go_region_held3 (fun wx => wx.cell? ⟨p, po + i * 15, none⟩ = some (.string s) ∧ wx.cell? ⟨p, po + i * 15 + 1, none⟩ = some (.string o) ∧ wx.cell? ⟨p, po + i * 15 + 2, none⟩ = some (.string v) ∧ wx.cell? ⟨p, po + i * 15 + 3, none⟩ = some (.int .i64 k) ∧ wx.cell? ⟨p, po + i * 15 + 4, none⟩ = some (.int .i64 d) ∧ wx.cell? ⟨p, po + i * 15 + 5, none⟩ = some (.int .i64 x0) ∧ wx.cell? ⟨p, po + i * 15 + 6, none⟩ = some (.int .i64 y0) ∧ wx.cell? ⟨p, po + i * 15 + 7, none⟩ = some (.int .i64 z0) ∧ wx.cell? ⟨p, po + i * 15 + 8, none⟩ = some (.int .i64 x1) ∧ wx.cell? ⟨p, po + i * 15 + 9, none⟩ = some (.int .i64 y1) ∧ wx.cell? ⟨p, po + i * 15 + 10, none⟩ = some (.int .i64 z1) ∧ wx.cell? ⟨p, po + i * 15 + 11, none⟩ = some (.int .i64 ct) ∧ wx.cell? ⟨p, po + i * 15 + 12, none⟩ = some (.int .i64 dx) ∧ wx.cell? ⟨p, po + i * 15 + 13, none⟩ = some (.int .i64 dy) ∧ wx.cell? ⟨p, po + i * 15 + 14, none⟩ = some (.int .i64 dz) ∧ wx.cell? ⟨q, qo + i * 15, none⟩ = some (.string s) ∧ wx.cell? ⟨q, qo + i * 15 + 1, none⟩ = some (.string o) ∧ wx.cell? ⟨q, qo + i * 15 + 2, none⟩ = some (.string v) ∧ wx.cell? ⟨q, qo + i * 15 + 3, none⟩ = some (.int .i64 k) ∧ wx.cell? ⟨q, qo + i * 15 + 4, none⟩ = some (.int .i64 d) ∧ wx.cell? ⟨q, qo + i * 15 + 5, none⟩ = some (.int .i64 x0) ∧ wx.cell? ⟨q, qo + i * 15 + 6, none⟩ = some (.int .i64 y0) ∧ wx.cell? ⟨q, qo + i * 15 + 7, none⟩ = some (.int .i64 z0) ∧ wx.cell? ⟨q, qo + i * 15 + 8, none⟩ = some (.int .i64 x1) ∧ wx.cell? ⟨q, qo + i * 15 + 9, none⟩ = some (.int .i64 y1) ∧ wx.cell? ⟨q, qo + i * 15 + 10, none⟩ = some (.int .i64 z1) ∧ wx.cell? ⟨q, qo + i * 15 + 11, none⟩ = some (.int .i64 ct) ∧ wx.cell? ⟨q, qo + i * 15 + 12, none⟩ = some (.int .i64 dx) ∧ wx.cell? ⟨q, qo + i * 15 + 13, none⟩ = some (.int .i64 dy) ∧ wx.cell? ⟨q, qo + i * 15 + 14, none⟩ = some (.int .i64 dz))
        (simp (maxDischargeDepth := 12) [go_sem, le1, lt1, *])
        (first
        | (go_at_call 36; refine (ftE_one _ _ _ _ _ _ _ _ _ _ _ _ _ _ _ _).mono ?_; rintro e w' ⟨rfl, hb⟩; have HB := hide hb; have ya0 := keep1 hb (b := p) (o := _) (v := .string s) k0; have ya1 := keep1 hb (b := p) (o := _) (v := .string o) k1; have ya2 := keep1 hb (b := p) (o := _) (v := .string v) k2; have ya3 := keep1 hb (b := p) (o := _) (v := .int .i64 k) k3; have ya4 := keep1 hb (b := p) (o := _) (v := .int .i64 d) k4; have ya5 := keep1 hb (b := p) (o := _) (v := .int .i64 x0) k5; have ya6 := keep1 hb (b := p) (o := _) (v := .int .i64 y0) k6; have ya7 := keep1 hb (b := p) (o := _) (v := .int .i64 z0) k7; have ya8 := keep1 hb (b := p) (o := _) (v := .int .i64 x1) k8; have ya9 := keep1 hb (b := p) (o := _) (v := .int .i64 y1) k9; have ya10 := keep1 hb (b := p) (o := _) (v := .int .i64 z1) k10; have ya11 := keep1 hb (b := p) (o := _) (v := .int .i64 ct) k11; have ya12 := keep1 hb (b := p) (o := _) (v := .int .i64 dx) k12; have ya13 := keep1 hb (b := p) (o := _) (v := .int .i64 dy) k13; have ya14 := keep1 hb (b := p) (o := _) (v := .int .i64 dz) k14; have za0 := keep1 hb (b := q) (o := _) (v := .string s) l0; have za1 := keep1 hb (b := q) (o := _) (v := .string o) l1; have za2 := keep1 hb (b := q) (o := _) (v := .string v) l2; have za3 := keep1 hb (b := q) (o := _) (v := .int .i64 k) l3; have za4 := keep1 hb (b := q) (o := _) (v := .int .i64 d) l4; have za5 := keep1 hb (b := q) (o := _) (v := .int .i64 x0) l5; have za6 := keep1 hb (b := q) (o := _) (v := .int .i64 y0) l6; have za7 := keep1 hb (b := q) (o := _) (v := .int .i64 z0) l7; have za8 := keep1 hb (b := q) (o := _) (v := .int .i64 x1) l8; have za9 := keep1 hb (b := q) (o := _) (v := .int .i64 y1) l9; have za10 := keep1 hb (b := q) (o := _) (v := .int .i64 z1) l10; have za11 := keep1 hb (b := q) (o := _) (v := .int .i64 ct) l11; have za12 := keep1 hb (b := q) (o := _) (v := .int .i64 dx) l12; have za13 := keep1 hb (b := q) (o := _) (v := .int .i64 dy) l13; have za14 := keep1 hb (b := q) (o := _) (v := .int .i64 dz) l14; clear hb))
      all_goals
        go_wp2_with fail
        go_roundw
        case rel => exact ⟨i + 1, by simp, h, by repeat (first | exact unhide HW | refine bc ?_ (unhide HB) | refine Below.drew ?_)⟩
        case measure => simp only [intOf]; omega
    · have i1 : ¬ (i : Int) < (n : Int) := by omega
      have iz : decide ((i : Int) < (n : Int)) = false := decide_eq_false i1
      go_wp2_with fail
      go_ret
      exact ⟨rfl, unhide HW⟩
end Go.Proofs.Ytkkmikgeppkhiaa

namespace Go.Proofs.Ytkkmikgeppkhiaa
open Go.ChangeShapes Go.WideShapes Go.ChangeAt Go.RowKit
set_option linter.unusedVariables false
set_option linter.unusedSimpArgs false

theorem bx_conv (x0 y0 z0 x1 y1 z1 : Int) (w : World) : Calls Try.prog 51 #[.agg #[.int .i64 x0, .int .i64 y0, .int .i64 z0, .int .i64 x1, .int .i64 y1, .int .i64 z1]] w fun e w' => e = .returned (.agg #[.int .i64 x0, .int .i64 y0, .int .i64 z0, .int .i64 x1, .int .i64 y1, .int .i64 z1]) ∧ Below w.heap.size w w' := by
  go_enter Try.func51, Try.ntmps51
  go_wp2
  exact bodyPost_ret (v := .agg #[.int .i64 x0, .int .i64 y0, .int .i64 z0, .int .i64 x1, .int .i64 y1, .int .i64 z1]) (by simp [results, Try.results51, go_sem]) rfl ⟨rfl, by repeat (first | exact Below.refl _ _ | refine ba ?_ _)⟩
set_option maxRecDepth 100000 in
set_option maxHeartbeats 4000000 in
theorem ft_conv (s o v : ByteArray) (k d x0 y0 z0 x1 y1 z1 ct dx dy dz : Int) (w : World) : Calls Try.prog 29 #[.agg #[.string s, .string o, .string v, .int .i64 k, .int .i64 d, .int .i64 x0, .int .i64 y0, .int .i64 z0, .int .i64 x1, .int .i64 y1, .int .i64 z1, .int .i64 ct, .int .i64 dx, .int .i64 dy, .int .i64 dz]] w fun e w' => e = .returned (.agg #[.string s, .string o, .string v, .int .i64 k, .int .i64 d, .int .i64 x0, .int .i64 y0, .int .i64 z0, .int .i64 x1, .int .i64 y1, .int .i64 z1, .int .i64 ct, .int .i64 dx, .int .i64 dy, .int .i64 dz]) ∧ Below w.heap.size w w' := by
  have HB := hide (fun W => bx_conv x0 y0 z0 x1 y1 z1 W)
  have V0 := hide (((vb_new w 48 (ftc ⟨s, o, v, k, d, x0, y0, z0, x1, y1, z1, ct, dx, dy, dz⟩) _ rfl).bel (ba (Below.refl _ _) (.cells (ftc ft0).toArray 57))).bel (ba (Below.refl _ _) (.cells (ftc ⟨s, o, v, k, d, 0, 0, 0, 0, 0, 0, 0, 0, 0, 0⟩).toArray 57)))
  have V1 := hide ((vb_new (w.alloc (.cells (ftc ⟨s, o, v, k, d, x0, y0, z0, x1, y1, z1, ct, dx, dy, dz⟩).toArray 48)) 57 (ftc ft0) _ rfl).bel (ba (Below.refl _ _) (.cells (ftc ⟨s, o, v, k, d, 0, 0, 0, 0, 0, 0, 0, 0, 0, 0⟩).toArray 57)))
  have V2 := hide (vb_new ((w.alloc (.cells (ftc ⟨s, o, v, k, d, x0, y0, z0, x1, y1, z1, ct, dx, dy, dz⟩).toArray 48)).alloc (.cells (ftc ft0).toArray 57)) 57 (ftc ⟨s, o, v, k, d, 0, 0, 0, 0, 0, 0, 0, 0, 0, 0⟩) _ rfl)
  have HB0 := hide (ba (ba (ba (Below.refl w.heap.size w) (.cells (ftc ⟨s, o, v, k, d, x0, y0, z0, x1, y1, z1, ct, dx, dy, dz⟩).toArray 48)) (.cells (ftc ft0).toArray 57)) (.cells (ftc ⟨s, o, v, k, d, 0, 0, 0, 0, 0, 0, 0, 0, 0, 0⟩).toArray 57))
  simp only [World.size_alloc] at V1 V2
  go_enter Try.func29, Try.ntmps29
  go_wp2_with fail
  refine (unhide HB _).mono ?_
  rintro e W1 ⟨rfl, hb⟩
  have a11 := ((unhide V0).bel hb).cell (m := 11) rfl
  have a12 := ((unhide V0).bel hb).cell (m := 12) rfl
  have a13 := ((unhide V0).bel hb).cell (m := 13) rfl
  have a14 := ((unhide V0).bel hb).cell (m := 14) rfl
  have e0 := ((unhide V2).bel hb).cell (m := 0) rfl
  have e1 := ((unhide V2).bel hb).cell (m := 1) rfl
  have e2 := ((unhide V2).bel hb).cell (m := 2) rfl
  have e3 := ((unhide V2).bel hb).cell (m := 3) rfl
  have e4 := ((unhide V2).bel hb).cell (m := 4) rfl
  have e5 := ((unhide V2).bel hb).cell (m := 5) rfl
  have e6 := ((unhide V2).bel hb).cell (m := 6) rfl
  have e7 := ((unhide V2).bel hb).cell (m := 7) rfl
  have e8 := ((unhide V2).bel hb).cell (m := 8) rfl
  have e9 := ((unhide V2).bel hb).cell (m := 9) rfl
  have e10 := ((unhide V2).bel hb).cell (m := 10) rfl
  have e11 := ((unhide V2).bel hb).cell (m := 11) rfl
  have e12 := ((unhide V2).bel hb).cell (m := 12) rfl
  have e13 := ((unhide V2).bel hb).cell (m := 13) rfl
  have e14 := ((unhide V2).bel hb).cell (m := 14) rfl
  have r0 := ((unhide V1).bel hb).cell (m := 0) rfl
  have r1 := ((unhide V1).bel hb).cell (m := 1) rfl
  have r2 := ((unhide V1).bel hb).cell (m := 2) rfl
  have r3 := ((unhide V1).bel hb).cell (m := 3) rfl
  have r4 := ((unhide V1).bel hb).cell (m := 4) rfl
  have r5 := ((unhide V1).bel hb).cell (m := 5) rfl
  have r6 := ((unhide V1).bel hb).cell (m := 6) rfl
  have r7 := ((unhide V1).bel hb).cell (m := 7) rfl
  have r8 := ((unhide V1).bel hb).cell (m := 8) rfl
  have r9 := ((unhide V1).bel hb).cell (m := 9) rfl
  have r10 := ((unhide V1).bel hb).cell (m := 10) rfl
  have r11 := ((unhide V1).bel hb).cell (m := 11) rfl
  have r12 := ((unhide V1).bel hb).cell (m := 12) rfl
  have r13 := ((unhide V1).bel hb).cell (m := 13) rfl
  have r14 := ((unhide V1).bel hb).cell (m := 14) rfl
  simp only [ft0] at a11 a12 a13 a14 e0 e1 e2 e3 e4 e5 e6 e7 e8 e9 e10 e11 e12 e13 e14 r0 r1 r2 r3 r4 r5 r6 r7 r8 r9 r10 r11 r12 r13 r14
  have fz2 : ∀ q, W1.frozen? ⟨w.heap.size + 1 + 1, q, none⟩ = false := ((unhide V2).bel hb).frozen
  have fz1 : ∀ q, W1.frozen? ⟨w.heap.size + 1, q, none⟩ = false := ((unhide V1).bel hb).frozen
  have HB1 := hide (bc (unhide HB0) hb)
  have U1 := hide ((unhide V1).bel hb)
  clear hb
  go_wp2_with fail
  have h0 := (vb.ne (g' := w.heap.size + 1 + 1) (o := 14) (x := .int .i64 dz) (vb.ne (g' := w.heap.size + 1 + 1) (o := 13) (x := .int .i64 dy) (vb.ne (g' := w.heap.size + 1 + 1) (o := 12) (x := .int .i64 dx) (vb.ne (g' := w.heap.size + 1 + 1) (o := 11) (x := .int .i64 ct) (vb.ne (g' := w.heap.size + 1 + 1) (o := 10) (x := .int .i64 z1) (vb.ne (g' := w.heap.size + 1 + 1) (o := 9) (x := .int .i64 y1) (vb.ne (g' := w.heap.size + 1 + 1) (o := 8) (x := .int .i64 x1) (vb.ne (g' := w.heap.size + 1 + 1) (o := 7) (x := .int .i64 z0) (vb.ne (g' := w.heap.size + 1 + 1) (o := 6) (x := .int .i64 y0) (vb.ne (g' := w.heap.size + 1 + 1) (o := 5) (x := .int .i64 x0) (unhide U1) (by omega)) (by omega)) (by omega)) (by omega)) (by omega)) (by omega)) (by omega)) (by omega)) (by omega)) (by omega))
  have h15 := (((((((((((((((h0.set 0 (.string s)).set 1 (.string o)).set 2 (.string v)).set 3 (.int .i64 k)).set 4 (.int .i64 d)).set 5 (.int .i64 x0)).set 6 (.int .i64 y0)).set 7 (.int .i64 z0)).set 8 (.int .i64 x1)).set 9 (.int .i64 y1)).set 10 (.int .i64 z1)).set 11 (.int .i64 ct)).set 12 (.int .i64 dx)).set 13 (.int .i64 dy)).set 14 (.int .i64 dz))
  simp only [ftc, ft0, List.set_cons_zero, List.set_cons_succ] at h15
  have z0' := h15.cell (m := 0) rfl
  have z1' := h15.cell (m := 1) rfl
  have z2' := h15.cell (m := 2) rfl
  have z3' := h15.cell (m := 3) rfl
  have z4' := h15.cell (m := 4) rfl
  have z5' := h15.cell (m := 5) rfl
  have z6' := h15.cell (m := 6) rfl
  have z7' := h15.cell (m := 7) rfl
  have z8' := h15.cell (m := 8) rfl
  have z9' := h15.cell (m := 9) rfl
  have z10' := h15.cell (m := 10) rfl
  have z11' := h15.cell (m := 11) rfl
  have z12' := h15.cell (m := 12) rfl
  have z13' := h15.cell (m := 13) rfl
  have z14' := h15.cell (m := 14) rfl
  have hA : w.heap.size ≤ w.heap.size + 1 + 1 := by omega
  have hR : w.heap.size ≤ w.heap.size + 1 := by omega
  have q1 := hide (Below.setCell (unhide HB1) (p := ⟨w.heap.size + 1 + 1, 5, none⟩) hA (.int .i64 x0))
  have q2 := hide (Below.setCell (unhide q1) (p := ⟨w.heap.size + 1 + 1, 6, none⟩) hA (.int .i64 y0))
  have q3 := hide (Below.setCell (unhide q2) (p := ⟨w.heap.size + 1 + 1, 7, none⟩) hA (.int .i64 z0))
  have q4 := hide (Below.setCell (unhide q3) (p := ⟨w.heap.size + 1 + 1, 8, none⟩) hA (.int .i64 x1))
  have q5 := hide (Below.setCell (unhide q4) (p := ⟨w.heap.size + 1 + 1, 9, none⟩) hA (.int .i64 y1))
  have q6 := hide (Below.setCell (unhide q5) (p := ⟨w.heap.size + 1 + 1, 10, none⟩) hA (.int .i64 z1))
  have q7 := hide (Below.setCell (unhide q6) (p := ⟨w.heap.size + 1 + 1, 11, none⟩) hA (.int .i64 ct))
  have q8 := hide (Below.setCell (unhide q7) (p := ⟨w.heap.size + 1 + 1, 12, none⟩) hA (.int .i64 dx))
  have q9 := hide (Below.setCell (unhide q8) (p := ⟨w.heap.size + 1 + 1, 13, none⟩) hA (.int .i64 dy))
  have q10 := hide (Below.setCell (unhide q9) (p := ⟨w.heap.size + 1 + 1, 14, none⟩) hA (.int .i64 dz))
  have q11 := hide (Below.setCell (unhide q10) (p := ⟨w.heap.size + 1, 0, none⟩) hR (.string s))
  have q12 := hide (Below.setCell (unhide q11) (p := ⟨w.heap.size + 1, 1, none⟩) hR (.string o))
  have q13 := hide (Below.setCell (unhide q12) (p := ⟨w.heap.size + 1, 2, none⟩) hR (.string v))
  have q14 := hide (Below.setCell (unhide q13) (p := ⟨w.heap.size + 1, 3, none⟩) hR (.int .i64 k))
  have q15 := hide (Below.setCell (unhide q14) (p := ⟨w.heap.size + 1, 4, none⟩) hR (.int .i64 d))
  have q16 := hide (Below.setCell (unhide q15) (p := ⟨w.heap.size + 1, 5, none⟩) hR (.int .i64 x0))
  have q17 := hide (Below.setCell (unhide q16) (p := ⟨w.heap.size + 1, 6, none⟩) hR (.int .i64 y0))
  have q18 := hide (Below.setCell (unhide q17) (p := ⟨w.heap.size + 1, 7, none⟩) hR (.int .i64 z0))
  have q19 := hide (Below.setCell (unhide q18) (p := ⟨w.heap.size + 1, 8, none⟩) hR (.int .i64 x1))
  have q20 := hide (Below.setCell (unhide q19) (p := ⟨w.heap.size + 1, 9, none⟩) hR (.int .i64 y1))
  have q21 := hide (Below.setCell (unhide q20) (p := ⟨w.heap.size + 1, 10, none⟩) hR (.int .i64 z1))
  have q22 := hide (Below.setCell (unhide q21) (p := ⟨w.heap.size + 1, 11, none⟩) hR (.int .i64 ct))
  have q23 := hide (Below.setCell (unhide q22) (p := ⟨w.heap.size + 1, 12, none⟩) hR (.int .i64 dx))
  have q24 := hide (Below.setCell (unhide q23) (p := ⟨w.heap.size + 1, 13, none⟩) hR (.int .i64 dy))
  have q25 := hide (Below.setCell (unhide q24) (p := ⟨w.heap.size + 1, 14, none⟩) hR (.int .i64 dz))
  exact bodyPost_ret (v := .agg #[.string s, .string o, .string v, .int .i64 k, .int .i64 d, .int .i64 x0, .int .i64 y0, .int .i64 z0, .int .i64 x1, .int .i64 y1, .int .i64 z1, .int .i64 ct, .int .i64 dx, .int .i64 dy, .int .i64 dz]) (by simp [results, Try.results29, go_sem, z0', z1', z2', z3', z4', z5', z6', z7', z8', z9', z10', z11', z12', z13', z14']; done) rfl ⟨rfl, (unhide q25)⟩
def fillF (fs : List Ft) (i : Nat) : List Ft := fs.take i ++ List.replicate (fs.length - i) ft0
theorem fillF_len (fs : List Ft) (i : Nat) (h : i ≤ fs.length) : (fillF fs i).length = fs.length := by simp [fillF]; omega
theorem fillF_at (fs : List Ft) (i : Nat) (h : i < fs.length) : (fillF fs i)[i]? = some ft0 := by
  unfold fillF
  rw [List.getElem?_append_right (by simp; omega), List.getElem?_replicate]
  simp
  omega
theorem fillF_step (fs : List Ft) (i : Nat) (f : Ft) (h : fs[i]? = some f) : (fillF fs i).set i f = fillF fs (i + 1) := by
  have hi : i < fs.length := (List.getElem?_eq_some_iff.1 h).1
  unfold fillF
  have hl : (fs.take i).length = i := by simp; omega
  rw [List.set_append, if_neg (by omega), hl, Nat.sub_self, List.take_add_one, h]
  have e : fs.length - i = (fs.length - (i + 1)) + 1 := by omega
  rw [e, List.replicate_succ]
  simp
theorem fillF_zero (fs : List Ft) : fillF fs 0 = List.replicate fs.length ft0 := by simp [fillF]
theorem fillF_all (fs : List Ft) : fillF fs fs.length = fs := by simp [fillF]
theorem made_ft (m : Nat) : madeCells (ftv ft0).cells (m * 15) = (flatG ftc (List.replicate m ft0)).toArray := by
  apply Array.ext
  · simp [madeCells, flatG_len ftc_len]
  · intro i h1 h2
    have hi : i < m * 15 := by simpa [madeCells] using h1
    have hd : i / 15 < m := by omega
    have hr : (List.replicate m ft0)[i / 15]? = some ft0 := by simp [List.getElem?_replicate, hd]
    have hlt : i % 15 < (ftc ft0).length := by rw [ftc_len]; omega
    have hf := flatG_at ftc_len hr (j := i % 15) (v := (ftc ft0)[i % 15]) (List.getElem?_eq_getElem hlt)
    rw [show i / 15 * 15 + i % 15 = i by omega] at hf
    have hc : (ftv ft0).cells = (ftc ft0).toArray := rfl
    have hx : (flatG ftc (List.replicate m ft0))[i]? = some (flatG ftc (List.replicate m ft0))[i] := List.getElem?_eq_getElem _
    simp only [madeCells, Array.getElem_map, Array.getElem_range, hc, List.getElem_toArray]
    show ((ftc ft0).toArray)[i % 15]! = _
    rw [hx] at hf
    have := Option.some.inj hf
    rw [this, getElem!_pos (ftc ft0).toArray (i % 15) (by simpa using hlt)]
    simp
theorem ft_info : (Try.prog.info? 57).map (fun i => (i.zero, i.size, i.bytes)) = some (some (ftv ft0), 15, 144) := by kernel_rfl
theorem make_ft (n : Nat) (hn : n ≤ 1048576) (W : World) :
    (Instr.makeSlice 27 (.int .i64 (n : Int)) (.int .i64 (n : Int))).run Try.prog W = .ok (.slice (some ⟨W.heap.size, 0, none⟩) n n) (W.alloc (.cells (flatG ftc (List.replicate n ft0)).toArray 57)) := by
  obtain ⟨i, hx, h0, h1, h2⟩ := info_parts ft_info
  have := run_make (P := Try.prog) W 27 57 i (ftv ft0) Try.underlying27 hx h0 .i64 .i64 n n (by omega) (by omega) (by rw [h2]; omega) (by omega)
  rw [Int.toNat_natCast, h1, made_ft] at this
  exact this
set_option maxRecDepth 100000 in
set_option maxHeartbeats 4000000 in
theorem ft_to (u : Option Addr) (p po n cu : Nat) (fs : List Ft) (w : World) (hl : fs.length = n) (hn : n ≤ 1048576) (hu : SlG ftc 15 w u p po fs) :
    Calls Try.prog 8 #[.slice u n cu] w fun e w' => (∃ g, e = .returned (.slice (some ⟨g, 0, none⟩) n n) ∧ w.heap.size ≤ g ∧ vb w' g 57 (flatG ftc fs)) ∧ Below w.heap.size w w' := by
  have HU := hide hu
  have HL := hide hl
  clear hu hl
  have hmk := fun W => make_ft n hn W
  generalize hzz : flatG ftc (List.replicate n ft0) = Z at hmk
  have HZ := hide hzz
  clear hzz
  go_enter Try.func8, Try.ntmps8
  go_wp2_with fail
  have HG := hide (vb_new w 57 Z _ rfl)
  have HB0 := hide (ba (Below.refl w.heap.size w) (.cells Z.toArray 57))
  clear hmk
  go_loopw [4] (fun s W => ∃ i : Nat, s = .int .i64 (i : Int) ∧ i ≤ n ∧ vb W w.heap.size 57 (flatG ftc (fillF fs i)) ∧ Below w.heap.size w W) (fun s _ => n - (intOf s).toNat)
  case atStart =>
    refine ⟨0, rfl, Nat.zero_le _, ?_, unhide HB0⟩
    rw [fillF_zero, unhide HL, unhide HZ]
    exact unhide HG
  case round =>
    obtain ⟨i, rfl, hi, hb, hw⟩ := hrel
    have HB := hide hb
    have HW := hide hw
    clear hb hw HG HB0
    by_cases h : i < n
    · have i1 : (i : Int) < (n : Int) := by omega
      have i0 : (0 : Int) ≤ (i : Int) := Int.natCast_nonneg _
      have iz : decide ((i : Int) < (n : Int)) = true := decide_eq_true i1
      obtain ⟨⟨s, o, v, k, d, x0, y0, z0, x1, y1, z1, ct, dx, dy, dz⟩, hx⟩ := get_some (unhide HL) h
      obtain ⟨rfl, k0, k1, k2, k3, k4, k5, k6, k7, k8, k9, k10, k11, k12, k13, k14⟩ := ((unhide HU).bel (unhide HW)).at15 hx
      simp only at k0 k1 k2 k3 k4 k5 k6 k7 k8 k9 k10 k11 k12 k13 k14
      have HX := hide hx
      clear hx
      go_wp2_with fail
      refine (ft_conv _ _ _ _ _ _ _ _ _ _ _ _ _ _ _ _).mono ?_
      rintro e W1 ⟨rfl, hb⟩
      have pb := (unhide HB).bel hb
      have m0 := pb.cell (flatG_at ftc_len (fillF_at fs i (by rw [unhide HL]; exact h)) (j := 0) rfl)
      have m1 := pb.cell (flatG_at ftc_len (fillF_at fs i (by rw [unhide HL]; exact h)) (j := 1) rfl)
      have m2 := pb.cell (flatG_at ftc_len (fillF_at fs i (by rw [unhide HL]; exact h)) (j := 2) rfl)
      have m3 := pb.cell (flatG_at ftc_len (fillF_at fs i (by rw [unhide HL]; exact h)) (j := 3) rfl)
      have m4 := pb.cell (flatG_at ftc_len (fillF_at fs i (by rw [unhide HL]; exact h)) (j := 4) rfl)
      have m5 := pb.cell (flatG_at ftc_len (fillF_at fs i (by rw [unhide HL]; exact h)) (j := 5) rfl)
      have m6 := pb.cell (flatG_at ftc_len (fillF_at fs i (by rw [unhide HL]; exact h)) (j := 6) rfl)
      have m7 := pb.cell (flatG_at ftc_len (fillF_at fs i (by rw [unhide HL]; exact h)) (j := 7) rfl)
      have m8 := pb.cell (flatG_at ftc_len (fillF_at fs i (by rw [unhide HL]; exact h)) (j := 8) rfl)
      have m9 := pb.cell (flatG_at ftc_len (fillF_at fs i (by rw [unhide HL]; exact h)) (j := 9) rfl)
      have m10 := pb.cell (flatG_at ftc_len (fillF_at fs i (by rw [unhide HL]; exact h)) (j := 10) rfl)
      have m11 := pb.cell (flatG_at ftc_len (fillF_at fs i (by rw [unhide HL]; exact h)) (j := 11) rfl)
      have m12 := pb.cell (flatG_at ftc_len (fillF_at fs i (by rw [unhide HL]; exact h)) (j := 12) rfl)
      have m13 := pb.cell (flatG_at ftc_len (fillF_at fs i (by rw [unhide HL]; exact h)) (j := 13) rfl)
      have m14 := pb.cell (flatG_at ftc_len (fillF_at fs i (by rw [unhide HL]; exact h)) (j := 14) rfl)
      simp only [ft0, Nat.add_zero] at m0 m1 m2 m3 m4 m5 m6 m7 m8 m9 m10 m11 m12 m13 m14
      have fz : ∀ q, W1.frozen? ⟨w.heap.size, q, none⟩ = false := pb.frozen
      have PB := hide pb
      have HW1 := hide (bc (unhide HW) hb)
      clear hb pb k0 k1 k2 k3 k4 k5 k6 k7 k8 k9 k10 k11 k12 k13 k14
      go_wp2_with fail
      go_roundw
      case rel =>
        refine ⟨i + 1, by simp, h, ?_, ?_⟩
        · rw [← fillF_step fs i _ (unhide HX), flatG_set ftc_len _ _ _ (by rw [fillF_len _ _ (by rw [unhide HL]; omega), unhide HL]; exact h)]
          exact ((((((((((((((((unhide PB).set (i * 15) (.string s)).set (i * 15 + 1) (.string o)).set (i * 15 + 2) (.string v)).set (i * 15 + 3) (.int .i64 k)).set (i * 15 + 4) (.int .i64 d)).set (i * 15 + 5) (.int .i64 x0)).set (i * 15 + 6) (.int .i64 y0)).set (i * 15 + 7) (.int .i64 z0)).set (i * 15 + 8) (.int .i64 x1)).set (i * 15 + 9) (.int .i64 y1)).set (i * 15 + 10) (.int .i64 z1)).set (i * 15 + 11) (.int .i64 ct)).set (i * 15 + 12) (.int .i64 dx)).set (i * 15 + 13) (.int .i64 dy)).set (i * 15 + 14) (.int .i64 dz))
        · exact (Below.setCell (Below.setCell (Below.setCell (Below.setCell (Below.setCell (Below.setCell (Below.setCell (Below.setCell (Below.setCell (Below.setCell (Below.setCell (Below.setCell (Below.setCell (Below.setCell (Below.setCell (unhide HW1) (Nat.le_refl _) _) (Nat.le_refl _) _) (Nat.le_refl _) _) (Nat.le_refl _) _) (Nat.le_refl _) _) (Nat.le_refl _) _) (Nat.le_refl _) _) (Nat.le_refl _) _) (Nat.le_refl _) _) (Nat.le_refl _) _) (Nat.le_refl _) _) (Nat.le_refl _) _) (Nat.le_refl _) _) (Nat.le_refl _) _) (Nat.le_refl _) _)
      case measure => simp only [intOf]; omega
    · have i1 : ¬ (i : Int) < (n : Int) := by omega
      have iz : decide ((i : Int) < (n : Int)) = false := decide_eq_false i1
      have en : i = n := by omega
      subst en
      go_wp2_with fail
      go_ret
      refine ⟨⟨_, rfl, Nat.le_refl _, ?_⟩, unhide HW⟩
      have h1 := unhide HB
      rw [← unhide HL, fillF_all] at h1
      exact h1
end Go.Proofs.Ytkkmikgeppkhiaa

namespace Go.Proofs.Ytkkmikgeppkhiaa
open Go.ChangeShapes Go.WideShapes Go.ChangeAt Go.RowKit
set_option linter.unusedVariables false
set_option linter.unusedSimpArgs false

set_option maxRecDepth 100000 in
set_option maxHeartbeats 2000000 in
theorem ft_sz1 (s o v : ByteArray) (k d x0 y0 z0 x1 y1 z1 ct dx dy dz : Int) (q : Int) (w : World) (hs : s.size ≤ maxLen) (ho : o.size ≤ maxLen) (hv : v.size ≤ maxLen) (q0 : 0 ≤ q) (q1 : q ≤ 1048576) :
    Calls Try.prog 25 #[.agg #[.string s, .string o, .string v, .int .i64 k, .int .i64 d, .int .i64 x0, .int .i64 y0, .int .i64 z0, .int .i64 x1, .int .i64 y1, .int .i64 z1, .int .i64 ct, .int .i64 dx, .int .i64 dy, .int .i64 dz], .int .i64 q] w fun e w' => (∃ r : Int, e = .returned (.int .i64 r) ∧ (0 ≤ r → r ≤ q ∧ (s.size : Int) ≤ q ∧ (o.size : Int) ≤ q ∧ (v.size : Int) ≤ q) ∧ -1 ≤ r) ∧ Below w.heap.size w w' := by
  unfold maxLen at hs ho hv
  have n0 : (0 : Int) ≤ (s.size : Int) := Int.natCast_nonneg _
  have n1 : (0 : Int) ≤ (o.size : Int) := Int.natCast_nonneg _
  have n2 : (0 : Int) ≤ (v.size : Int) := Int.natCast_nonneg _
  by_cases h : q - (s.size : Int) < 0
  · have t : decide (q - (s.size : Int) < 0) = true := decide_eq_true h
    go_enter Try.func25, Try.ntmps25
    go_wp2
    go_ret
    exact ⟨⟨-1, rfl, fun h => by omega, by omega⟩, ba (Below.refl _ _) _⟩
  have t : decide (q - (s.size : Int) < 0) = false := decide_eq_false h
  by_cases h2 : q - (s.size : Int) - (o.size : Int) < 0
  · have t2 : decide (q - (s.size : Int) - (o.size : Int) < 0) = true := decide_eq_true h2
    go_enter Try.func25, Try.ntmps25
    go_wp2
    go_ret
    exact ⟨⟨-1, rfl, fun h => by omega, by omega⟩, ba (Below.refl _ _) _⟩
  have t2 : decide (q - (s.size : Int) - (o.size : Int) < 0) = false := decide_eq_false h2
  by_cases h3 : q - (s.size : Int) - (o.size : Int) - (v.size : Int) < 0
  · have t3 : decide (q - (s.size : Int) - (o.size : Int) - (v.size : Int) < 0) = true := decide_eq_true h3
    go_enter Try.func25, Try.ntmps25
    go_wp2
    go_ret
    exact ⟨⟨-1, rfl, fun h => by omega, by omega⟩, ba (Below.refl _ _) _⟩
  have t3 : decide (q - (s.size : Int) - (o.size : Int) - (v.size : Int) < 0) = false := decide_eq_false h3
  go_enter Try.func25, Try.ntmps25
  go_wp2
  go_ret
  exact ⟨⟨_, rfl, fun h => by omega, by omega⟩, ba (Below.refl _ _) _⟩

set_option maxRecDepth 100000 in
set_option maxHeartbeats 2000000 in
theorem ft_sz (u : Option Addr) (p po n cu : Nat) (fs : List Ft) (w : World) (hl : fs.length = n) (hn : n ≤ 9223372036854775807) (hsz : ∀ f ∈ fs, f.nm.size ≤ maxLen ∧ f.on.size ≤ maxLen ∧ f.ov.size ≤ maxLen) (hu : SlG ftc 15 w u p po fs) :
    Calls Try.prog 6 #[.slice u n cu, .int .i64 1048576] w fun e w' => (∃ r : Int, e = .returned (.int .i64 r) ∧ (0 ≤ r → n ≤ 1048576 ∧ r ≤ 1048576)) ∧ Below w.heap.size w w' := by
  have HU := hide hu
  have HL := hide hl
  have HS := hide hsz
  clear hu hl hsz
  have n0 : (0 : Int) ≤ (n : Int) := Int.natCast_nonneg _
  by_cases hb : n ≤ 1048576
  · have t : decide ((1048576 : Int) - (n : Int) < 0) = false := decide_eq_false (by omega)
    go_enter Try.func6, Try.ntmps6
    go_wp2
    go_loopw [1, 5] (fun q s W => ∃ (i : Nat) (r : Int), q = .int .i64 r ∧ 0 ≤ r ∧ r ≤ 1048576 ∧ s = .int .i64 (i : Int) ∧ i ≤ n ∧ Below w.heap.size w W) (fun _ s _ => n - (intOf s).toNat)
    case atStart => exact ⟨0, _, rfl, by omega, by omega, rfl, Nat.zero_le _, Below.refl _ _⟩
    case round =>
      obtain ⟨i, r, rfl, hr0, hr1, rfl, hi, hw⟩ := hrel
      have HW := hide hw
      clear hw
      by_cases h : i < n
      · have i1 : (i : Int) < (n : Int) := by omega
        have i0 : (0 : Int) ≤ (i : Int) := Int.natCast_nonneg _
        have iz : decide ((i : Int) < (n : Int)) = true := decide_eq_true i1
        obtain ⟨f, hx⟩ := get_some (unhide HL) h
        obtain ⟨rfl, k0, k1, k2, k3, k4, k5, k6, k7, k8, k9, k10, k11, k12, k13, k14⟩ := ((unhide HU).bel (unhide HW)).at15 hx
        obtain ⟨a1, a2, a3⟩ := unhide HS f (List.mem_of_getElem? hx)
        have HZ := hide (fun W => ft_sz1 f.nm f.on f.ov f.kd f.sd f.x0 f.y0 f.z0 f.x1 f.y1 f.z1 f.ct f.dx f.dy f.dz r W a1 a2 a3 hr0 hr1)
        clear hx a1 a2 a3
        go_wp2_with fail
        refine (unhide HZ _).mono ?_
        rintro e W1 ⟨⟨r1, rfl, hr2, hr3⟩, hb1⟩
        have HW1 := hide (bc (unhide HW) hb1)
        clear hb1 k0 k1 k2 k3 k4 k5 k6 k7 k8 k9 k10 k11 k12 k13 k14
        by_cases hz : r1 < 0
        · have hzd : decide (r1 < 0) = true := decide_eq_true hz
          have HR2 := hide hr2
          clear hr2
          go_wp2_with fail
          go_ret
          exact ⟨⟨-1, rfl, fun h => by omega⟩, unhide HW1⟩
        · have hzd : decide (r1 < 0) = false := decide_eq_false hz
          have q1 := (hr2 (by omega)).1
          clear hr2
          go_wp2_with fail
          go_roundw
          case rel => exact ⟨i + 1, r1, rfl, by omega, by omega, by simp, h, unhide HW1⟩
          case measure => simp only [intOf]; omega
      · have i1 : ¬ (i : Int) < (n : Int) := by omega
        have iz : decide ((i : Int) < (n : Int)) = false := decide_eq_false i1
        go_wp2_with fail
        go_ret
        exact ⟨⟨_, rfl, fun _ => by first | exact ⟨hb, by omega⟩ | omega⟩, unhide HW⟩
  · have t : decide ((1048576 : Int) - (n : Int) < 0) = true := decide_eq_true (by omega)
    go_enter Try.func6, Try.ntmps6
    go_wp2
    go_ret
    exact ⟨⟨-1, rfl, fun h => by omega⟩, Below.refl _ _⟩
set_option maxRecDepth 100000 in
set_option maxHeartbeats 4000000 in
theorem ft_szq (q : Int) (q0 : 0 ≤ q) (q1 : q ≤ 1048576) (u : Option Addr) (p po n cu : Nat) (fs : List Ft) (w : World) (hl : fs.length = n) (hn : n ≤ 9223372036854775807) (hsz : ∀ f ∈ fs, f.nm.size ≤ maxLen ∧ f.on.size ≤ maxLen ∧ f.ov.size ≤ maxLen) (hu : SlG ftc 15 w u p po fs) :
    Calls Try.prog 6 #[.slice u n cu, .int .i64 q] w fun e w' => (∃ r : Int, e = .returned (.int .i64 r) ∧ (0 ≤ r → n ≤ 1048576 ∧ r ≤ 1048576)) ∧ Below w.heap.size w w' := by
  have HU := hide hu
  have HL := hide hl
  have HS := hide hsz
  clear hu hl hsz
  have n0 : (0 : Int) ≤ (n : Int) := Int.natCast_nonneg _
  have wq : IntKind.i64.wrap (q - (n : Int)) = q - (n : Int) := wrap_i (by omega) (by omega)
  by_cases hb : (n : Int) ≤ q
  · have t : decide (q - (n : Int) < 0) = false := decide_eq_false (by omega)
    have t' : ¬ (q - (n : Int) < 0) := by omega
    go_enter Try.func6, Try.ntmps6
    go_wp2
    go_loopw [1, 5] (fun qq s W => ∃ (i : Nat) (r : Int), qq = .int .i64 r ∧ 0 ≤ r ∧ r ≤ 1048576 ∧ s = .int .i64 (i : Int) ∧ i ≤ n ∧ Below w.heap.size w W) (fun _ s _ => n - (intOf s).toNat)
    case atStart => exact ⟨0, _, rfl, by omega, by omega, rfl, Nat.zero_le _, Below.refl _ _⟩
    case round =>
      obtain ⟨i, r, rfl, hr0, hr1, rfl, hi, hw⟩ := hrel
      have HW := hide hw
      clear hw
      by_cases h : i < n
      · have i1 : (i : Int) < (n : Int) := by omega
        have i0 : (0 : Int) ≤ (i : Int) := Int.natCast_nonneg _
        have iz : decide ((i : Int) < (n : Int)) = true := decide_eq_true i1
        obtain ⟨f, hx⟩ := get_some (unhide HL) h
        obtain ⟨rfl, k0, k1, k2, k3, k4, k5, k6, k7, k8, k9, k10, k11, k12, k13, k14⟩ := ((unhide HU).bel (unhide HW)).at15 hx
        obtain ⟨a1, a2, a3⟩ := unhide HS f (List.mem_of_getElem? hx)
        have HZ := hide (fun W => ft_sz1 f.nm f.on f.ov f.kd f.sd f.x0 f.y0 f.z0 f.x1 f.y1 f.z1 f.ct f.dx f.dy f.dz r W a1 a2 a3 hr0 hr1)
        clear hx a1 a2 a3
        go_wp2_with fail
        refine (unhide HZ _).mono ?_
        rintro e W1 ⟨⟨r1, rfl, hr2, hr3⟩, hb1⟩
        have HW1 := hide (bc (unhide HW) hb1)
        clear hb1 k0 k1 k2 k3 k4 k5 k6 k7 k8 k9 k10 k11 k12 k13 k14
        by_cases hz : r1 < 0
        · have hzd : decide (r1 < 0) = true := decide_eq_true hz
          have HR2 := hide hr2
          clear hr2
          go_wp2_with fail
          go_ret
          exact ⟨⟨-1, rfl, fun h => by omega⟩, unhide HW1⟩
        · have hzd : decide (r1 < 0) = false := decide_eq_false hz
          have q1' := (hr2 (by omega)).1
          clear hr2
          go_wp2_with fail
          go_roundw
          case rel => exact ⟨i + 1, r1, rfl, by omega, by omega, by simp, h, unhide HW1⟩
          case measure => simp only [intOf]; omega
      · have i1 : ¬ (i : Int) < (n : Int) := by omega
        have iz : decide ((i : Int) < (n : Int)) = false := decide_eq_false i1
        go_wp2_with fail
        go_ret
        exact ⟨⟨_, rfl, fun _ => by first | exact ⟨by omega, by omega⟩ | omega⟩, unhide HW⟩
  · have t : decide (q - (n : Int) < 0) = true := decide_eq_true (by omega)
    have t' : q - (n : Int) < 0 := by omega
    go_enter Try.func6, Try.ntmps6
    go_wp2
    go_ret
    exact ⟨⟨-1, rfl, fun h => by omega⟩, Below.refl _ _⟩
end Go.Proofs.Ytkkmikgeppkhiaa
