/-
  Rows of features of one's own: marks on them, that these are held. Slices of texts: how great they are, copied. A slice of texts that came in, opened. The program's Apply answers as the model at every two lists of features and every list of names; it changes none of them, and its answer owns its memory.
-/
import Derived.Test.YtkkmikgeppkhiaaMgf
import Derived.Test.YtkkmikgeppkhiaaFtMark
import Derived.Test.YtkkmikgeppkhiaaStRows
import Derived.Test.YtkkmikgeppkhiaaNmAt
import Derived.Test.YtkkmikgeppkhiaaFtOpen
import Derived.Deep.Strs
import Derived.Test.YtkkmikgeppkhiaaFtRows
import Derived.Test.YtkkmikgeppkhiaaFtTo
import Derived.Test.YtkkmikgeppkhiaaFtSz
import Derived.Test.YtkkmikgeppkhiaaChecked
import Derived.Test.YtkkmikgeppkhiaaRows
import Derived.ChangeOld
import Derived.Lib.SmallJoins
namespace Go.Proofs.Ytkkmikgeppkhiaa
open Go.ChangeShapes Go.WideShapes Go.ChangeAt Go.RowKit
set_option linter.unusedVariables false
set_option linter.unusedSimpArgs false

def mkF (c i : Nat) : Ft := ⟨mkT (c + 15 * i), mkT (c + 15 * i + 1), mkT (c + 15 * i + 2), (c : Int) + 15 * (i : Int) + 1 + 1 + 1, (c : Int) + 15 * (i : Int) + 1 + 1 + 1 + 1, (c : Int) + 15 * (i : Int) + 1 + 1 + 1 + 1 + 1, (c : Int) + 15 * (i : Int) + 1 + 1 + 1 + 1 + 1 + 1, (c : Int) + 15 * (i : Int) + 1 + 1 + 1 + 1 + 1 + 1 + 1, (c : Int) + 15 * (i : Int) + 1 + 1 + 1 + 1 + 1 + 1 + 1 + 1, (c : Int) + 15 * (i : Int) + 1 + 1 + 1 + 1 + 1 + 1 + 1 + 1 + 1, (c : Int) + 15 * (i : Int) + 1 + 1 + 1 + 1 + 1 + 1 + 1 + 1 + 1 + 1, (c : Int) + 15 * (i : Int) + 1 + 1 + 1 + 1 + 1 + 1 + 1 + 1 + 1 + 1 + 1, (c : Int) + 15 * (i : Int) + 1 + 1 + 1 + 1 + 1 + 1 + 1 + 1 + 1 + 1 + 1 + 1, (c : Int) + 15 * (i : Int) + 1 + 1 + 1 + 1 + 1 + 1 + 1 + 1 + 1 + 1 + 1 + 1 + 1, (c : Int) + 15 * (i : Int) + 1 + 1 + 1 + 1 + 1 + 1 + 1 + 1 + 1 + 1 + 1 + 1 + 1 + 1⟩
def mkFs (c n : Nat) : List Ft := (List.range n).map (mkF c)
theorem mkFs_len (c n : Nat) : (mkFs c n).length = n := by simp [mkFs]
theorem mkFs_at (c n i : Nat) (h : i < n) : (mkFs c n)[i]? = some (mkF c i) := by simp [mkFs, h]
theorem own_eq {w : World} {B t k n : Nat} {v : Value} {L M : List Value} (h : w.ownsRow B t k v n L) (e : L = M) : w.ownsRow B t k v n M := by rw [← e]; exact h
theorem set15 (L : List Value) (o : Nat) (v0 v1 v2 v3 v4 v5 v6 v7 v8 v9 v10 v11 v12 v13 v14 : Value) : setAll L o [v0, v1, v2, v3, v4, v5, v6, v7, v8, v9, v10, v11, v12, v13, v14] = ((((((((((((((L.set o v0).set (o + 1) v1).set (o + 2) v2).set (o + 3) v3).set (o + 4) v4).set (o + 5) v5).set (o + 6) v6).set (o + 7) v7).set (o + 8) v8).set (o + 9) v9).set (o + 10) v10).set (o + 11) v11).set (o + 12) v12).set (o + 13) v13).set (o + 14) v14 := rfl
theorem ocell {w : World} {B n cap g i : Nat} {L : List Value} (h : w.ownsRow B 57 15 (.slice (some ⟨g, 0, none⟩) n cap) n L) (hi : i < n) {j : Nat} (hj : j < 15) : ∃ v, w.cell? ⟨g, i * 15 + j, none⟩ = some v := by
  have hl := h.1
  have hx : i * 15 + j < L.length := by rw [hl]; omega
  exact ⟨_, own_cells h (List.getElem?_eq_getElem hx)⟩
set_option maxRecDepth 100000 in
set_option maxHeartbeats 4000000 in
theorem ft_markO (u : Option Addr) (B n cu c : Nat) (fs : List Ft) (w : World) (hl : fs.length = n) (hn : n ≤ 1048576) (c0 : 0 < c) (c1 : c ≤ 40000000) (hs : w.ownsRow B 57 15 (.slice u n cu) n (flatG ftc fs)) (hB : B ≤ w.heap.size) :
    Calls Try.prog 12 #[.slice u n cu, .int .i64 (c : Int)] w fun e w' => e = .returned (.int .i64 ((c : Int) + 15 * (n : Int))) ∧ w'.ownsRow B 57 15 (.slice u n cu) n (flatG ftc (mkFs c n)) ∧ Below B w w' := by
  by_cases hn0 : n = 0
  · subst hn0
    have hl0 : fs = [] := List.eq_nil_of_length_eq_zero hl
    subst hl0
    have HS := hide hs
    clear hs hl
    go_enter Try.func12, Try.ntmps12
    go_wp2
    go_loopw [1, 5] (fun s t W => s = .int .i64 (c : Int) ∧ t = .int .i64 0 ∧ W = w) (fun _ s _ => 0)
    case atStart => exact ⟨rfl, rfl, rfl⟩
    case round =>
      obtain ⟨rfl, rfl, hw⟩ := hrel
      subst hw
      go_wp2
      go_ret
      exact ⟨by simp, unhide HS, Below.refl _ _⟩
  · obtain ⟨u9, c9, e9, _, _, h9⟩ := own_form hs
    injection e9 with a1 a2 a3
    subst a1
    subst a3
    obtain ⟨g, rfl, hg1, hg2, hc⟩ := h9 (by omega)
    have HS := hide hs
    have HL := hide hl
    clear hs h9 hc hl a2 hg2
    go_enter Try.func12, Try.ntmps12
    go_wp2
    go_loopw [1, 5] (fun s t W => ∃ (i : Nat) (l : List Ft), s = .int .i64 ((c : Int) + 15 * (i : Int)) ∧ t = .int .i64 (i : Int) ∧ i ≤ n ∧ l.length = n ∧ (∀ j, j < i → l[j]? = some (mkF c j)) ∧ W.ownsRow B 57 15 (.slice (some ⟨g, 0, none⟩) n cu) n (flatG ftc l) ∧ Below B w W) (fun _ s _ => n - (intOf s).toNat)
    case atStart => exact ⟨0, fs, by simp, rfl, Nat.zero_le _, unhide HL, fun j hj => by omega, unhide HS, Below.refl _ _⟩
    case round =>
      clear HS HL fs
      obtain ⟨i, l, rfl, rfl, hi, hl, hmk, hown, hw⟩ := hrel
      have HO := hide hown
      have HW := hide hw
      have HL := hide hl
      have HMK := hide hmk
      clear hown hw hl hmk
      by_cases h : i < n
      · have i1 : (i : Int) < (n : Int) := by omega
        have i0 : (0 : Int) ≤ (i : Int) := Int.natCast_nonneg _
        have iz : decide ((i : Int) < (n : Int)) = true := decide_eq_true i1
        have K0 := hide (fun W => mkText_any (c + 15 * i) W (by omega) (by omega))
        have K1 := hide (fun W => mkText_any (c + 15 * i + 1) W (by omega) (by omega))
        have K2 := hide (fun W => mkText_any (c + 15 * i + 2) W (by omega) (by omega))
        rw [show (((c + 15 * i : Nat) : Int)) = (c : Int) + 15 * (i : Int) by omega] at K0
        rw [show (((c + 15 * i + 1 : Nat) : Int)) = (c : Int) + 15 * (i : Int) + 1 by omega] at K1
        rw [show (((c + 15 * i + 2 : Nat) : Int)) = (c : Int) + 15 * (i : Int) + 1 + 1 by omega] at K2
        have HMF : Hid (mkF c i = ⟨mkT (c + 15 * i), mkT (c + 15 * i + 1), mkT (c + 15 * i + 2), (c : Int) + 15 * (i : Int) + 1 + 1 + 1, (c : Int) + 15 * (i : Int) + 1 + 1 + 1 + 1, (c : Int) + 15 * (i : Int) + 1 + 1 + 1 + 1 + 1, (c : Int) + 15 * (i : Int) + 1 + 1 + 1 + 1 + 1 + 1, (c : Int) + 15 * (i : Int) + 1 + 1 + 1 + 1 + 1 + 1 + 1, (c : Int) + 15 * (i : Int) + 1 + 1 + 1 + 1 + 1 + 1 + 1 + 1, (c : Int) + 15 * (i : Int) + 1 + 1 + 1 + 1 + 1 + 1 + 1 + 1 + 1, (c : Int) + 15 * (i : Int) + 1 + 1 + 1 + 1 + 1 + 1 + 1 + 1 + 1 + 1, (c : Int) + 15 * (i : Int) + 1 + 1 + 1 + 1 + 1 + 1 + 1 + 1 + 1 + 1 + 1, (c : Int) + 15 * (i : Int) + 1 + 1 + 1 + 1 + 1 + 1 + 1 + 1 + 1 + 1 + 1 + 1, (c : Int) + 15 * (i : Int) + 1 + 1 + 1 + 1 + 1 + 1 + 1 + 1 + 1 + 1 + 1 + 1 + 1, (c : Int) + 15 * (i : Int) + 1 + 1 + 1 + 1 + 1 + 1 + 1 + 1 + 1 + 1 + 1 + 1 + 1 + 1⟩) := hide rfl
        generalize mkT (c + 15 * i) = s0 at *
        generalize mkT (c + 15 * i + 1) = s1 at *
        generalize mkT (c + 15 * i + 2) = s2 at *
        have HS0 := hide (Nat.le_trans hB (unhide HW).size)
        go_wp2_with fail
        refine (unhide K0 _).mono ?_
        rintro e W1 ⟨rfl, hb1⟩
        have pb1 := own_bel (unhide HO) hb1
        have HW1 := hide ((unhide HW).trans (hb1.mono (unhide HS0)))
        obtain ⟨v0, e0⟩ := ocell pb1 h (j := 0) (by omega)
        rw [Nat.add_zero] at e0
        have fz1 : ∀ q, W1.frozen? ⟨g, q, none⟩ = false := own_frz pb1
        have P1 := hide (own_set pb1 (i * 15) (.string s0))
        have HS1 := hide (Nat.le_trans (unhide HS0) hb1.size)
        have HV1 : Hid (Below B w (W1.setCell ⟨g, i * 15, none⟩ (.string s0))) := hide (Below.setCell (unhide HW1) hg1 _)
        clear hb1 pb1
        go_wp2_with fail
        refine (unhide K1 _).mono ?_
        rintro e W2 ⟨rfl, hb2⟩
        have pb2 := own_bel (unhide P1) hb2
        have HW2 := hide ((unhide HV1).trans (hb2.mono (by have := unhide HS1; simpa [World.setCell] using this)))
        obtain ⟨v1, e1⟩ := ocell pb2 h (j := 1) (by omega)
        have fz2 : ∀ q, W2.frozen? ⟨g, q, none⟩ = false := own_frz pb2
        have P2 := hide (own_set pb2 (i * 15 + 1) (.string s1))
        have HS2 : Hid (B ≤ W2.heap.size) := hide (Nat.le_trans (unhide HS1) (by have := hb2.size; simpa [World.setCell] using this))
        have HV2 : Hid (Below B w (W2.setCell ⟨g, i * 15 + 1, none⟩ (.string s1))) := hide (Below.setCell (unhide HW2) hg1 _)
        clear hb2 pb2 e0 fz1
        go_wp2_with fail
        refine (unhide K2 _).mono ?_
        rintro e W3 ⟨rfl, hb3⟩
        have pb3 := own_bel (unhide P2) hb3
        have HW3 := hide ((unhide HV2).trans (hb3.mono (by have := unhide HS2; simpa [World.setCell] using this)))
        obtain ⟨v2, e2⟩ := ocell pb3 h (j := 2) (by omega)
        obtain ⟨v3, e3⟩ := ocell pb3 h (j := 3) (by omega)
        obtain ⟨v4, e4⟩ := ocell pb3 h (j := 4) (by omega)
        obtain ⟨v5, e5⟩ := ocell pb3 h (j := 5) (by omega)
        obtain ⟨v6, e6⟩ := ocell pb3 h (j := 6) (by omega)
        obtain ⟨v7, e7⟩ := ocell pb3 h (j := 7) (by omega)
        obtain ⟨v8, e8⟩ := ocell pb3 h (j := 8) (by omega)
        obtain ⟨v9, e9⟩ := ocell pb3 h (j := 9) (by omega)
        obtain ⟨v10, e10⟩ := ocell pb3 h (j := 10) (by omega)
        obtain ⟨v11, e11⟩ := ocell pb3 h (j := 11) (by omega)
        obtain ⟨v12, e12⟩ := ocell pb3 h (j := 12) (by omega)
        obtain ⟨v13, e13⟩ := ocell pb3 h (j := 13) (by omega)
        obtain ⟨v14, e14⟩ := ocell pb3 h (j := 14) (by omega)
        have fz3 : ∀ q, W3.frozen? ⟨g, q, none⟩ = false := own_frz pb3
        have P3 := hide pb3
        clear hb3 pb3 e1 fz2
        go_wp2_with fail
        go_roundw
        case rel =>
          refine ⟨i + 1, l.set i (mkF c i), by simp only [Value.int.injEq, true_and]; omega, by simp, h, by rw [List.length_set]; exact unhide HL, ?_, own_eq (own_set (own_set (own_set (own_set (own_set (own_set (own_set (own_set (own_set (own_set (own_set (own_set (own_set (unhide P3) (i * 15 + 2) _) (i * 15 + 3) _) (i * 15 + 4) _) (i * 15 + 5) _) (i * 15 + 6) _) (i * 15 + 7) _) (i * 15 + 8) _) (i * 15 + 9) _) (i * 15 + 10) _) (i * 15 + 11) _) (i * 15 + 12) _) (i * 15 + 13) _) (i * 15 + 14) _) ?_, Below.setCell (Below.setCell (Below.setCell (Below.setCell (Below.setCell (Below.setCell (Below.setCell (Below.setCell (Below.setCell (Below.setCell (Below.setCell (Below.setCell (Below.setCell (unhide HW3) hg1 _) hg1 _) hg1 _) hg1 _) hg1 _) hg1 _) hg1 _) hg1 _) hg1 _) hg1 _) hg1 _) hg1 _) hg1 _⟩
          · intro j hj
            by_cases e : j = i
            · subst e
              exact List.getElem?_set_self (by rw [unhide HL]; exact h)
            · rw [List.getElem?_set_ne (fun q => e q.symm)]
              exact unhide HMK j (by omega)
          · rw [flatG_set ftc_len l i _ (by rw [unhide HL]; exact h), unhide HMF]
            rfl
        case measure => simp only [intOf]; omega
      · have i1 : ¬ (i : Int) < (n : Int) := by omega
        have iz : decide ((i : Int) < (n : Int)) = false := decide_eq_false i1
        have en : i = n := by omega
        subst en
        have hfin : l = mkFs c i := by
          refine List.ext_getElem? fun j => ?_
          by_cases hj : j < i
          · rw [unhide HMK j hj, mkFs_at c i j hj]
          · rw [List.getElem?_eq_none (by rw [unhide HL]; omega), List.getElem?_eq_none (by rw [mkFs_len]; omega)]
        have HFIN := hide hfin
        clear hfin
        go_wp2_with fail
        go_ret
        refine ⟨rfl, ?_, unhide HW⟩
        rw [← unhide HFIN]
        exact unhide HO
set_option maxRecDepth 100000 in
set_option maxHeartbeats 8000000 in
theorem ft_heldO (u : Option Addr) (p po n cu c : Nat) (w : World) (hn : n ≤ 1048576) (c0 : 0 < c) (c1 : c ≤ 40000000) (hu : SlG ftc 15 w u p po (mkFs c n)) :
    Calls Try.prog 19 #[.slice u n cu, .int .i64 (c : Int)] w fun e w' => e = .returned (.int .i64 ((c : Int) + 15 * (n : Int))) ∧ Below w.heap.size w w' := by
  have HU := hide hu
  clear hu
  go_enter Try.func19, Try.ntmps19
  go_wp2
  go_loopw [1, 5] (fun s t W => ∃ i : Nat, s = .int .i64 ((c : Int) + 15 * (i : Int)) ∧ t = .int .i64 (i : Int) ∧ i ≤ n ∧ Below w.heap.size w W) (fun _ s _ => n - (intOf s).toNat)
  case atStart => exact ⟨0, by simp, rfl, Nat.zero_le _, Below.refl _ _⟩
  case round =>
    obtain ⟨i, rfl, rfl, hi, hw⟩ := hrel
    have HW := hide hw
    by_cases h : i < n
    · have i1 : (i : Int) < (n : Int) := by omega
      have i0 : (0 : Int) ≤ (i : Int) := Int.natCast_nonneg _
      have iz : decide ((i : Int) < (n : Int)) = true := decide_eq_true i1
      obtain ⟨rfl, k0, k1, k2, k3, k4, k5, k6, k7, k8, k9, k10, k11, k12, k13, k14⟩ := ((unhide HU).bel hw).at15 (mkFs_at c n i h)
      have kl := cell_lt k0
      have K0 := hide (fun W => mkText_any (c + 15 * i) W (by omega) (by omega))
      have K1 := hide (fun W => mkText_any (c + 15 * i + 1) W (by omega) (by omega))
      have K2 := hide (fun W => mkText_any (c + 15 * i + 2) W (by omega) (by omega))
      rw [show (((c + 15 * i : Nat) : Int)) = (c : Int) + 15 * (i : Int) by omega] at K0
      rw [show (((c + 15 * i + 1 : Nat) : Int)) = (c : Int) + 15 * (i : Int) + 1 by omega] at K1
      rw [show (((c + 15 * i + 2 : Nat) : Int)) = (c : Int) + 15 * (i : Int) + 1 + 1 by omega] at K2
      simp only [mkF] at k0 k1 k2 k3 k4 k5 k6 k7 k8 k9 k10 k11 k12 k13 k14
      generalize mkT (c + 15 * i) = s0 at *
      generalize mkT (c + 15 * i + 1) = s1 at *
      generalize mkT (c + 15 * i + 2) = s2 at *
      clear hw
      go_wp2_with fail
      go_region_held3 (fun wx => wx.cell? ⟨p, po + i * 15, none⟩ = some (.string s0) ∧ wx.cell? ⟨p, po + i * 15 + 1, none⟩ = some (.string s1) ∧ wx.cell? ⟨p, po + i * 15 + 2, none⟩ = some (.string s2) ∧ wx.cell? ⟨p, po + i * 15 + 3, none⟩ = some (.int .i64 ((c : Int) + 15 * (i : Int) + 1 + 1 + 1)) ∧ wx.cell? ⟨p, po + i * 15 + 4, none⟩ = some (.int .i64 ((c : Int) + 15 * (i : Int) + 1 + 1 + 1 + 1)) ∧ wx.cell? ⟨p, po + i * 15 + 5, none⟩ = some (.int .i64 ((c : Int) + 15 * (i : Int) + 1 + 1 + 1 + 1 + 1)) ∧ wx.cell? ⟨p, po + i * 15 + 6, none⟩ = some (.int .i64 ((c : Int) + 15 * (i : Int) + 1 + 1 + 1 + 1 + 1 + 1)) ∧ wx.cell? ⟨p, po + i * 15 + 7, none⟩ = some (.int .i64 ((c : Int) + 15 * (i : Int) + 1 + 1 + 1 + 1 + 1 + 1 + 1)) ∧ wx.cell? ⟨p, po + i * 15 + 8, none⟩ = some (.int .i64 ((c : Int) + 15 * (i : Int) + 1 + 1 + 1 + 1 + 1 + 1 + 1 + 1)) ∧ wx.cell? ⟨p, po + i * 15 + 9, none⟩ = some (.int .i64 ((c : Int) + 15 * (i : Int) + 1 + 1 + 1 + 1 + 1 + 1 + 1 + 1 + 1)) ∧ wx.cell? ⟨p, po + i * 15 + 10, none⟩ = some (.int .i64 ((c : Int) + 15 * (i : Int) + 1 + 1 + 1 + 1 + 1 + 1 + 1 + 1 + 1 + 1)) ∧ wx.cell? ⟨p, po + i * 15 + 11, none⟩ = some (.int .i64 ((c : Int) + 15 * (i : Int) + 1 + 1 + 1 + 1 + 1 + 1 + 1 + 1 + 1 + 1 + 1)) ∧ wx.cell? ⟨p, po + i * 15 + 12, none⟩ = some (.int .i64 ((c : Int) + 15 * (i : Int) + 1 + 1 + 1 + 1 + 1 + 1 + 1 + 1 + 1 + 1 + 1 + 1)) ∧ wx.cell? ⟨p, po + i * 15 + 13, none⟩ = some (.int .i64 ((c : Int) + 15 * (i : Int) + 1 + 1 + 1 + 1 + 1 + 1 + 1 + 1 + 1 + 1 + 1 + 1 + 1)) ∧ wx.cell? ⟨p, po + i * 15 + 14, none⟩ = some (.int .i64 ((c : Int) + 15 * (i : Int) + 1 + 1 + 1 + 1 + 1 + 1 + 1 + 1 + 1 + 1 + 1 + 1 + 1 + 1))) (simp (maxDischargeDepth := 12) [go_sem, le1, lt1, *])
        (first
        | (go_at_call 37; refine (unhide K0 _).mono ?_; rintro e V0 ⟨rfl, hb⟩; have HB0 := hide hb; have y0_0 := keep1 hb k0; have y0_1 := keep1 hb k1; have y0_2 := keep1 hb k2; have y0_3 := keep1 hb k3; have y0_4 := keep1 hb k4; have y0_5 := keep1 hb k5; have y0_6 := keep1 hb k6; have y0_7 := keep1 hb k7; have y0_8 := keep1 hb k8; have y0_9 := keep1 hb k9; have y0_10 := keep1 hb k10; have y0_11 := keep1 hb k11; have y0_12 := keep1 hb k12; have y0_13 := keep1 hb k13; have y0_14 := keep1 hb k14; clear hb))
      all_goals
        clear k0 k1 k2 k3 k4 k5 k6 k7 k8 k9 k10 k11 k12 k13 k14 y0_0 kl
        have kl := cell_lt y0_1
        go_wp2_with fail
        go_region_held3 (fun wx => wx.cell? ⟨p, po + i * 15 + 1, none⟩ = some (.string s1) ∧ wx.cell? ⟨p, po + i * 15 + 2, none⟩ = some (.string s2) ∧ wx.cell? ⟨p, po + i * 15 + 3, none⟩ = some (.int .i64 ((c : Int) + 15 * (i : Int) + 1 + 1 + 1)) ∧ wx.cell? ⟨p, po + i * 15 + 4, none⟩ = some (.int .i64 ((c : Int) + 15 * (i : Int) + 1 + 1 + 1 + 1)) ∧ wx.cell? ⟨p, po + i * 15 + 5, none⟩ = some (.int .i64 ((c : Int) + 15 * (i : Int) + 1 + 1 + 1 + 1 + 1)) ∧ wx.cell? ⟨p, po + i * 15 + 6, none⟩ = some (.int .i64 ((c : Int) + 15 * (i : Int) + 1 + 1 + 1 + 1 + 1 + 1)) ∧ wx.cell? ⟨p, po + i * 15 + 7, none⟩ = some (.int .i64 ((c : Int) + 15 * (i : Int) + 1 + 1 + 1 + 1 + 1 + 1 + 1)) ∧ wx.cell? ⟨p, po + i * 15 + 8, none⟩ = some (.int .i64 ((c : Int) + 15 * (i : Int) + 1 + 1 + 1 + 1 + 1 + 1 + 1 + 1)) ∧ wx.cell? ⟨p, po + i * 15 + 9, none⟩ = some (.int .i64 ((c : Int) + 15 * (i : Int) + 1 + 1 + 1 + 1 + 1 + 1 + 1 + 1 + 1)) ∧ wx.cell? ⟨p, po + i * 15 + 10, none⟩ = some (.int .i64 ((c : Int) + 15 * (i : Int) + 1 + 1 + 1 + 1 + 1 + 1 + 1 + 1 + 1 + 1)) ∧ wx.cell? ⟨p, po + i * 15 + 11, none⟩ = some (.int .i64 ((c : Int) + 15 * (i : Int) + 1 + 1 + 1 + 1 + 1 + 1 + 1 + 1 + 1 + 1 + 1)) ∧ wx.cell? ⟨p, po + i * 15 + 12, none⟩ = some (.int .i64 ((c : Int) + 15 * (i : Int) + 1 + 1 + 1 + 1 + 1 + 1 + 1 + 1 + 1 + 1 + 1 + 1)) ∧ wx.cell? ⟨p, po + i * 15 + 13, none⟩ = some (.int .i64 ((c : Int) + 15 * (i : Int) + 1 + 1 + 1 + 1 + 1 + 1 + 1 + 1 + 1 + 1 + 1 + 1 + 1)) ∧ wx.cell? ⟨p, po + i * 15 + 14, none⟩ = some (.int .i64 ((c : Int) + 15 * (i : Int) + 1 + 1 + 1 + 1 + 1 + 1 + 1 + 1 + 1 + 1 + 1 + 1 + 1 + 1))) (simp (maxDischargeDepth := 12) [go_sem, le1, lt1, *])
          (first
          | (go_at_call 37; refine (unhide K1 _).mono ?_; rintro e V1 ⟨rfl, hb⟩; have HB1 := hide hb; have y1_1 := keep1 hb y0_1; have y1_2 := keep1 hb y0_2; have y1_3 := keep1 hb y0_3; have y1_4 := keep1 hb y0_4; have y1_5 := keep1 hb y0_5; have y1_6 := keep1 hb y0_6; have y1_7 := keep1 hb y0_7; have y1_8 := keep1 hb y0_8; have y1_9 := keep1 hb y0_9; have y1_10 := keep1 hb y0_10; have y1_11 := keep1 hb y0_11; have y1_12 := keep1 hb y0_12; have y1_13 := keep1 hb y0_13; have y1_14 := keep1 hb y0_14; clear hb))
        all_goals
          clear y0_1 y0_2 y0_3 y0_4 y0_5 y0_6 y0_7 y0_8 y0_9 y0_10 y0_11 y0_12 y0_13 y0_14 y1_1 kl
          have kl := cell_lt y1_2
          go_wp2_with fail
          go_region_held3 (fun wx => wx.cell? ⟨p, po + i * 15 + 2, none⟩ = some (.string s2) ∧ wx.cell? ⟨p, po + i * 15 + 3, none⟩ = some (.int .i64 ((c : Int) + 15 * (i : Int) + 1 + 1 + 1)) ∧ wx.cell? ⟨p, po + i * 15 + 4, none⟩ = some (.int .i64 ((c : Int) + 15 * (i : Int) + 1 + 1 + 1 + 1)) ∧ wx.cell? ⟨p, po + i * 15 + 5, none⟩ = some (.int .i64 ((c : Int) + 15 * (i : Int) + 1 + 1 + 1 + 1 + 1)) ∧ wx.cell? ⟨p, po + i * 15 + 6, none⟩ = some (.int .i64 ((c : Int) + 15 * (i : Int) + 1 + 1 + 1 + 1 + 1 + 1)) ∧ wx.cell? ⟨p, po + i * 15 + 7, none⟩ = some (.int .i64 ((c : Int) + 15 * (i : Int) + 1 + 1 + 1 + 1 + 1 + 1 + 1)) ∧ wx.cell? ⟨p, po + i * 15 + 8, none⟩ = some (.int .i64 ((c : Int) + 15 * (i : Int) + 1 + 1 + 1 + 1 + 1 + 1 + 1 + 1)) ∧ wx.cell? ⟨p, po + i * 15 + 9, none⟩ = some (.int .i64 ((c : Int) + 15 * (i : Int) + 1 + 1 + 1 + 1 + 1 + 1 + 1 + 1 + 1)) ∧ wx.cell? ⟨p, po + i * 15 + 10, none⟩ = some (.int .i64 ((c : Int) + 15 * (i : Int) + 1 + 1 + 1 + 1 + 1 + 1 + 1 + 1 + 1 + 1)) ∧ wx.cell? ⟨p, po + i * 15 + 11, none⟩ = some (.int .i64 ((c : Int) + 15 * (i : Int) + 1 + 1 + 1 + 1 + 1 + 1 + 1 + 1 + 1 + 1 + 1)) ∧ wx.cell? ⟨p, po + i * 15 + 12, none⟩ = some (.int .i64 ((c : Int) + 15 * (i : Int) + 1 + 1 + 1 + 1 + 1 + 1 + 1 + 1 + 1 + 1 + 1 + 1)) ∧ wx.cell? ⟨p, po + i * 15 + 13, none⟩ = some (.int .i64 ((c : Int) + 15 * (i : Int) + 1 + 1 + 1 + 1 + 1 + 1 + 1 + 1 + 1 + 1 + 1 + 1 + 1)) ∧ wx.cell? ⟨p, po + i * 15 + 14, none⟩ = some (.int .i64 ((c : Int) + 15 * (i : Int) + 1 + 1 + 1 + 1 + 1 + 1 + 1 + 1 + 1 + 1 + 1 + 1 + 1 + 1))) (simp (maxDischargeDepth := 12) [go_sem, le1, lt1, *])
            (first
            | (go_at_call 37; refine (unhide K2 _).mono ?_; rintro e V2 ⟨rfl, hb⟩; have HB2 := hide hb; have y2_2 := keep1 hb y1_2; have y2_3 := keep1 hb y1_3; have y2_4 := keep1 hb y1_4; have y2_5 := keep1 hb y1_5; have y2_6 := keep1 hb y1_6; have y2_7 := keep1 hb y1_7; have y2_8 := keep1 hb y1_8; have y2_9 := keep1 hb y1_9; have y2_10 := keep1 hb y1_10; have y2_11 := keep1 hb y1_11; have y2_12 := keep1 hb y1_12; have y2_13 := keep1 hb y1_13; have y2_14 := keep1 hb y1_14; clear hb))
          all_goals
            clear y1_2 y1_3 y1_4 y1_5 y1_6 y1_7 y1_8 y1_9 y1_10 y1_11 y1_12 y1_13 y1_14 y2_2 kl
            have kl := cell_lt y2_3
            go_wp2_with fail
            go_roundw
            case rel => exact ⟨i + 1, by simp only [Value.int.injEq, true_and]; omega, by simp, h, by repeat (first | exact unhide HW | refine bc ?_ (unhide HB2) | refine bc ?_ (unhide HB1) | refine bc ?_ (unhide HB0) | refine Below.drew ?_)⟩
            case measure => simp only [intOf]; omega
    · have i1 : ¬ (i : Int) < (n : Int) := by omega
      have iz : decide ((i : Int) < (n : Int)) = false := decide_eq_false i1
      have en : i = n := by omega
      subst en
      clear hw
      go_wp2_with fail
      go_ret
      exact ⟨rfl, unhide HW⟩
end Go.Proofs.Ytkkmikgeppkhiaa

namespace Go.Proofs.Ytkkmikgeppkhiaa
open Go.ChangeShapes Go.WideShapes Go.ChangeAt Go.RowKit
set_option linter.unusedVariables false
set_option linter.unusedSimpArgs false

set_option maxHeartbeats 2000000 in
theorem st_szq (q : Int) (q0 : 0 ≤ q) (q1 : q ≤ 1048576) (u : Option Addr) (n cu : Nat) (l : List ByteArray) (w : World) (hl : l.length = n) (hn : n ≤ 9223372036854775807) (hs : ∀ s ∈ l, s.size ≤ maxLen) (hu : StAt w u l) :
    Calls Try.prog 21 #[.slice u n cu, .int .i64 q] w fun e w' => (∃ r : Int, e = .returned (.int .i64 r) ∧ (0 ≤ r → n ≤ 1048576 ∧ r ≤ 1048576)) ∧ w' = w := by
  have HU := hide hu
  have HL := hide hl
  have HS := hide hs
  clear hu hl hs
  have n0 : (0 : Int) ≤ (n : Int) := Int.natCast_nonneg _
  have wq : IntKind.i64.wrap (q - (n : Int)) = q - (n : Int) := wrap_i (by omega) (by omega)
  by_cases hb : (n : Int) ≤ q
  · have t : decide (q - (n : Int) < 0) = false := decide_eq_false (by omega)
    have t' : ¬ (q - (n : Int) < 0) := by omega
    go_enter Try.func21, Try.ntmps21
    go_wp2
    go_loopw [1, 5] (fun qq s W => ∃ (i : Nat) (r : Int), qq = .int .i64 r ∧ 0 ≤ r ∧ r ≤ 1048576 ∧ s = .int .i64 (i : Int) ∧ i ≤ n ∧ W = w) (fun _ s _ => n - (intOf s).toNat)
    case atStart => exact ⟨0, _, rfl, by omega, by omega, rfl, Nat.zero_le _, rfl⟩
    case round =>
      obtain ⟨i, r, rfl, hr0, hr1, rfl, hi, hw⟩ := hrel
      subst hw
      by_cases h : i < n
      · have i1 : (i : Int) < (n : Int) := by omega
        have i0 : (0 : Int) ≤ (i : Int) := Int.natCast_nonneg _
        have iz : decide ((i : Int) < (n : Int)) = true := decide_eq_true i1
        obtain ⟨s, hx⟩ := get_some (unhide HL) h
        have hne : l ≠ [] := by intro e; subst e; cases hx
        obtain ⟨g, o, rfl, _, hc⟩ := (unhide HU) hne
        have k0 := hc i s hx
        have hss := unhide HS s (List.mem_of_getElem? hx)
        unfold maxLen at hss
        have wr1 : IntKind.i64.wrap (r - (s.size : Int)) = r - (s.size : Int) := wrap_i (by omega) (by omega)
        clear hx hc hne
        by_cases hz : r - (s.size : Int) < 0
        · have hzd : decide (r - (s.size : Int) < 0) = true := decide_eq_true hz
          go_wp2_with fail
          go_ret
          exact ⟨⟨-1, rfl, fun h => by omega⟩, rfl⟩
        · have hzd : decide (r - (s.size : Int) < 0) = false := decide_eq_false hz
          go_wp2_with fail
          go_roundw
          case rel => exact ⟨i + 1, r - (s.size : Int), rfl, by omega, by omega, by simp, h, by first | rfl | trivial⟩
          case measure => simp only [intOf]; omega
      · have i1 : ¬ (i : Int) < (n : Int) := by omega
        have iz : decide ((i : Int) < (n : Int)) = false := decide_eq_false i1
        go_wp2_with fail
        go_ret
        exact ⟨⟨_, rfl, fun _ => ⟨by omega, by omega⟩⟩, rfl⟩
  · have t : decide (q - (n : Int) < 0) = true := decide_eq_true (by omega)
    have t' : q - (n : Int) < 0 := by omega
    go_enter Try.func21, Try.ntmps21
    go_wp2
    go_ret
    exact ⟨⟨-1, rfl, fun h => by omega⟩, rfl⟩
set_option maxHeartbeats 2000000 in
theorem st_to (u : Option Addr) (n cu : Nat) (l : List ByteArray) (w : World) (hl : l.length = n) (hn : n ≤ 1048576) (hu : StAt w u l) :
    Calls Try.prog 23 #[.slice u n cu] w fun e w' => (∃ g, e = .returned (.slice (some ⟨g, 0, none⟩) n n) ∧ w.heap.size ≤ g ∧ vb w' g 9 (strs l)) ∧ Below w.heap.size w w' := by
  have HU := hide hu
  have HL := hide hl
  have hmk := fun W => make_vals (P := Try.prog) 34 9 16 n (.string ⟨#[]⟩) rfl Try.underlying34 info9 (by omega) (by omega) W
  clear hu hl
  generalize hZ : List.replicate n (Value.string ⟨#[]⟩) = Z at hmk
  have HZ : Hid (Z.length = n) := hide (by rw [← hZ]; simp)
  clear hZ
  go_enter Try.func23, Try.ntmps23
  go_wp2_with fail
  go_loopw [4] (fun s W => ∃ (i : Nat) (L : List Value), s = .int .i64 (i : Int) ∧ i ≤ n ∧ L.length = n ∧ L.take i = (strs l).take i ∧ vb W w.heap.size 9 L ∧ Below w.heap.size w W) (fun s _ => n - (intOf s).toNat)
  case atStart => exact ⟨0, Z, rfl, Nat.zero_le _, unhide HZ, by simp, vb_new w 9 Z _ rfl, ba (Below.refl _ _) _⟩
  case round =>
    obtain ⟨i, L, rfl, hi, hlen, htk, hv, hw⟩ := hrel
    have HV := hide hv
    have HW := hide hw
    have HLN := hide hlen
    have HTK := hide htk
    by_cases h : i < n
    · have i1 : (i : Int) < (n : Int) := by omega
      have i0 : (0 : Int) ≤ (i : Int) := Int.natCast_nonneg _
      have iz : decide ((i : Int) < (n : Int)) = true := decide_eq_true i1
      obtain ⟨s, hx⟩ := get_some (unhide HL) h
      have hne : l ≠ [] := by intro e; subst e; cases hx
      obtain ⟨g, o, rfl, hgl, hc⟩ := ((unhide HU).bel hw) hne
      have k0 := hc i s hx
      have hil : i < L.length := by rw [hlen]; exact h
      have e0 : wr.cell? ⟨w.heap.size, i, none⟩ = some L[i] := hv.cell (List.getElem?_eq_getElem hil)
      have fz : ∀ q, wr.frozen? ⟨w.heap.size, q, none⟩ = false := hv.frozen
      have HS := hide (hv.set i (.string s))
      have HWS : Hid (Below w.heap.size w (wr.setCell ⟨w.heap.size, i, none⟩ (.string s))) := hide (Below.setCell hw (Nat.le_refl _) _)
      have HT2 : Hid ((L.set i (.string s)).take (i + 1) = (strs l).take (i + 1)) := hide (by
        have hx2 : (strs l)[i]? = some (.string s) := by simp [strs, hx]
        rw [List.take_add_one, List.take_add_one, List.take_set_of_le (Nat.le_refl _), htk, hx2, List.getElem?_set_self hil])
      generalize L[i] = x0 at *
      clear hx hc hne hil hlen htk hv hw
      go_wp2_with fail
      go_roundw
      case rel => exact ⟨i + 1, L.set i (.string s), by simp, h, by rw [List.length_set]; exact unhide HLN, unhide HT2, unhide HS, unhide HWS⟩
      case measure => simp only [intOf]; omega
    · have i1 : ¬ (i : Int) < (n : Int) := by omega
      have iz : decide ((i : Int) < (n : Int)) = false := decide_eq_false i1
      have HE : Hid (L = strs l) := hide (by
        rw [List.take_of_length_le (by omega), List.take_of_length_le (by simp [strs]; rw [unhide HL]; omega)] at htk
        exact htk)
      clear hlen htk hv hw
      go_wp2_with fail
      go_ret
      exact ⟨⟨_, rfl, Nat.le_refl _, by rw [← unhide HE]; exact unhide HV⟩, unhide HW⟩
end Go.Proofs.Ytkkmikgeppkhiaa

namespace Go.Proofs.Ytkkmikgeppkhiaa
open Go.ChangeShapes Go.WideShapes Go.ChangeAt Go.RowKit Go.Deep
set_option linter.unusedVariables false
set_option linter.unusedSimpArgs false

theorem open_sts {H : Type} {enc : TypeId × Value → H} {w : World} {base : Nat} {spare : Nat → Bool} {held : Bool} {fuel : Nat} {cs : List Value} {x : DataW H × List MemPlace}
    (h : DataW.trod enc Try.prog w base spare held fuel 34 cs = some x) :
    ∃ (u : Option Addr) (n cap p po : Nat) (l : List ByteArray), cs = [.slice u n cap] ∧ n ≤ 9223372036854775807 ∧ l.length = n ∧ (∀ s ∈ l, s.size ≤ maxLen) ∧ StAt w u l := by
  rcases open_strs Try.underlying34 Try.underlying9 cells9 h with ⟨rfl, _⟩ | ⟨a, len, cap, m, Sx, rfl, hb, hl, hm, hmm, _, hx⟩
  · exact ⟨none, 0, 0, 0, 0, [], rfl, by omega, rfl, by simp, fun h => absurd rfl h⟩
  have hlm : len ≤ m := by rw [hmm]; split <;> omega
  refine ⟨_, len, cap, 0, 0, (List.range len).map Sx, rfl, ?_, by simp, ?_, ?_⟩
  · unfold maxLen at hm; omega
  · intro s hs
    obtain ⟨i, hi, rfl⟩ := List.mem_map.1 hs
    exact (hx i (by have := List.mem_range.1 hi; omega)).2
  · intro h0
    have hl0 : 0 < len := by
      rcases Nat.eq_zero_or_pos len with e | e
      · subst e; exact (h0 (by simp)).elim
      · exact e
    obtain ⟨p, po, sp⟩ := a
    have hsp : sp = none := by
      have hy := (hx 0 (by omega)).1
      cases sp with
      | none => rfl
      | some s =>
        simp only [Addr.add, World.cell?] at hy
        split at hy <;> simp at hy
    subst hsp
    refine ⟨p, po, rfl, ?_, ?_⟩
    · have hy := (hx 0 (by omega)).1
      rw [addr_add_none] at hy
      exact cell_lt hy
    · intro i s hi
      rw [List.getElem?_map] at hi
      obtain ⟨j, hj, rfl⟩ := Option.map_eq_some_iff.1 hi
      have hjl := (List.getElem?_eq_some_iff.1 hj)
      obtain ⟨hjl, ej⟩ := hjl
      rw [List.getElem_range] at ej
      subst ej
      have hy := (hx i (by have := hjl; rw [List.length_range] at this; omega)).1
      rw [addr_add_none] at hy
      exact hy
end Go.Proofs.Ytkkmikgeppkhiaa

namespace Go.Proofs.Ytkkmikgeppkhiaa
open Go.ChangeShapes Go.WideShapes Go.ChangeAt Go.RowKit Go.Joins
set_option linter.unusedVariables false
set_option linter.unusedSimpArgs false

/-- a row of features of one's own -/
def FRow (w : World) (B : Nat) (v : Value) (l : List Ft) : Prop := w.ownsRow B 57 15 v l.length (flatG ftc l)
theorem FRow.bel {w w' : World} {B : Nat} {v : Value} {l : List Ft} (h : FRow w B v l) (hb : Below w.heap.size w w') : FRow w' B v l := own_bel h hb
theorem FRow.mw {w w' : World} {B g : Nat} {v : Value} {l : List Ft} (h : FRow w B v l) (hm : Mw g w w') (hg : g < B) : FRow w' B v l :=
  own_kept h (fun k hk => by have := own_ge h k hk; exact hm.block k this.2 (by omega))
theorem FRow.form {w : World} {B : Nat} {v : Value} {l : List Ft} (h : FRow w B v l) : ∃ u c p, v = .slice u l.length c ∧ SlG ftc 15 w u p 0 l := by
  obtain ⟨u, c, p, e, _, hs⟩ := own_slF h
  exact ⟨u, c, p, e, hs⟩
theorem vb.mw' {w w' : World} {p g t : Nat} {L : List Value} (h : vb w p t L) (hm : Mw g w w') (hg : p ≠ g) : vb w' p t L := (hm.block p h.lt hg).trans h
theorem vb.stAt {w : World} {g : Nat} {l : List ByteArray} (h : vb w g 9 (strs l)) : StAt w (some ⟨g, 0, none⟩) l :=
  fun _ => ⟨g, 0, rfl, h.lt, fun i s hi => by rw [Nat.zero_add]; exact h.cell (strs_at hi)⟩
set_option maxRecDepth 100000 in
set_option maxHeartbeats 8000000 in
theorem fnExactApply_walk (u1 : Option Addr) (n1 cap1 p1 po1 : Nat) (B : List Ft) (u2 : Option Addr) (n2 cap2 p2 po2 : Nat) (L : List Ft) (u3 : Option Addr) (n3 cap3 p3 po3 : Nat) (ns : List ByteArray) (w : World) (hn1 : n1 ≤ 9223372036854775807) (hl1 : B.length = n1) (hr1 : (∀ f ∈ B, f.nm.size ≤ maxLen ∧ f.on.size ≤ maxLen ∧ f.ov.size ≤ maxLen) ∧ SlG ftc 15 w u1 p1 po1 B)
    (hn2 : n2 ≤ 9223372036854775807) (hl2 : L.length = n2) (hr2 : (∀ f ∈ L, f.nm.size ≤ maxLen ∧ f.on.size ≤ maxLen ∧ f.ov.size ≤ maxLen) ∧ SlG ftc 15 w u2 p2 po2 L) (hn3 : n3 ≤ 9223372036854775807) (hl3 : ns.length = n3) (hr3 : (∀ s ∈ ns, s.size ≤ maxLen) ∧ StAt w u3 ns) :
    Calls Try.prog 5 #[.slice u1 n1 cap1, .slice u2 n2 cap2, .slice u3 n3 cap3] w fun e w' => e = .returned (.bool true) ∧ Below w.heap.size w w' := by
  obtain ⟨hs1, hu1⟩ := hr1
  obtain ⟨hs2, hu2⟩ := hr2
  obtain ⟨hs3, hu3⟩ := hr3
  have HSZ1 := hide (ft_sz u1 p1 po1 n1 cap1 B w hl1 hn1 hs1 hu1)
  have HSZ2 := hide (fun r X (h0 : 0 ≤ r) (h1 : r ≤ 1048576) (hX : Below w.heap.size w X) => ft_szq r h0 h1 u2 p2 po2 n2 cap2 L X hl2 hn2 hs2 (hu2.bel hX))
  have HSZ3 := hide (fun r X (h0 : 0 ≤ r) (h1 : r ≤ 1048576) (hX : Below w.heap.size w X) => st_szq r h0 h1 u3 n3 cap3 ns X hl3 hn3 hs3 (hu3.bel hX))
  have HT1 := hide (fun (hb : n1 ≤ 1048576) X (hX : Below w.heap.size w X) => ft_to u1 p1 po1 n1 cap1 B X hl1 hb (hu1.bel hX))
  have HT2 := hide (fun (hb : n2 ≤ 1048576) X (hX : Below w.heap.size w X) => ft_to u2 p2 po2 n2 cap2 L X hl2 hb (hu2.bel hX))
  have HT3 := hide (fun (hb : n3 ≤ 1048576) X (hX : Below w.heap.size w X) => st_to u3 n3 cap3 ns X hl3 hb (hu3.bel hX))
  have HM := hide (fun (hb1 : n1 ≤ 1048576) (hb2 : n2 ≤ 1048576) (hb3 : n3 ≤ 1048576) g h k X (hX : vb X g 57 (flatG ftc B)) (hY : vb X h 57 (flatG ftc L)) (hZ : vb X k 9 (strs ns)) => applyM_any (some ⟨g, 0, none⟩) g 0 n1 n1 B (some ⟨h, 0, none⟩) h 0 n2 n2 L (some ⟨k, 0, none⟩) n3 n3 ns X hl1 hl2 hl3 hb3 ⟨by rw [hl1]; exact hb1, Nat.le_of_eq hl1, hX.slG ftc_len, hs1⟩ ⟨by rw [hl2]; exact hb2, Nat.le_of_eq hl2, hY.slG ftc_len, hs2⟩ hZ.stAt)
  have HP := hide (fun (hb1 : n1 ≤ 1048576) (hb2 : n2 ≤ 1048576) (hb3 : n3 ≤ 1048576) g h k X (hX : vb X g 57 (flatG ftc B)) (hY : vb X h 57 (flatG ftc L)) (hZ : vb X k 9 (strs ns)) => applyP_any (some ⟨g, 0, none⟩) g 0 n1 n1 B (some ⟨h, 0, none⟩) h 0 n2 n2 L (some ⟨k, 0, none⟩) n3 n3 ns X hl1 hl2 hl3 hb3 ⟨by rw [hl1]; exact hb1, Nat.le_of_eq hl1, hX.slG ftc_len, hs1⟩ ⟨by rw [hl2]; exact hb2, Nat.le_of_eq hl2, hY.slG ftc_len, hs2⟩ hZ.stAt hs3)
  have HE1 := hide (fun (hb : n1 ≤ 1048576) g g' X (hX : vb X g 57 (flatG ftc B)) (hY : vb X g' 57 (flatG ftc B)) => ft_same (some ⟨g, 0, none⟩) (some ⟨g', 0, none⟩) g 0 g' 0 n1 n1 n1 B X hl1 hb (hX.slG ftc_len) (hY.slG ftc_len))
  have HE2 := hide (fun (hb : n2 ≤ 1048576) g g' X (hX : vb X g 57 (flatG ftc L)) (hY : vb X g' 57 (flatG ftc L)) => ft_same (some ⟨g, 0, none⟩) (some ⟨g', 0, none⟩) g 0 g' 0 n2 n2 n2 L X hl2 hb (hX.slG ftc_len) (hY.slG ftc_len))
  have HE3 := hide (fun (hb : n3 ≤ 1048576) g g' X (hX : vb X g 9 (strs ns)) (hY : vb X g' 9 (strs ns)) => st_same (some ⟨g, 0, none⟩) (some ⟨g', 0, none⟩) n3 n3 n3 ns X hl3 hb hX.stAt hY.stAt)
  have HKS := hide (fun (hb : n3 ≤ 1048576) g (k : Nat) X (hk0 : 0 < k) (hk : k ≤ 60000000) (hX : vb X g 9 (strs ns)) => st_mark (some ⟨g, 0, none⟩) g n3 n3 k ns X hl3 hb hk0 hk (by unfold SRow; rw [hl3]; exact hX.owns (Nat.le_refl _) (by rw [strs_len, hl3]) (by unfold maxLen; omega)))
  have HFL1 : Hid ((flatG ftc B).length = n1 * 15) := hide (by rw [flatG_len ftc_len, hl1])
  have HFL2 : Hid ((flatG ftc L).length = n2 * 15) := hide (by rw [flatG_len ftc_len, hl2])
  clear hu1 hs1 hl1 hu2 hs2 hl2 hu3 hs3 hl3
  go_enter Try.func5, Try.ntmps5
  go_wp2_with fail
  refine (unhide HSZ1).mono ?_
  rintro e W0 ⟨⟨r, rfl, hr⟩, hb0⟩
  have HB0 := hide hb0
  clear hb0 HSZ1
  by_cases hz : r < 0
  · have t : decide (r < 0) = true := decide_eq_true hz
    clear hr
    go_wp2_with fail
    go_ret
    exact ⟨rfl, unhide HB0⟩
  have t : decide (r < 0) = false := decide_eq_false hz
  obtain ⟨hb1, hrl⟩ := hr (by omega)
  have hr0 : 0 ≤ r := by omega
  clear hr
  go_wp2_with fail
  refine (unhide HSZ2 r _ hr0 hrl (unhide HB0)).mono ?_
  rintro e W00 ⟨⟨r2, rfl, hr⟩, hb0⟩
  have HB1 := hide (bc (unhide HB0) hb0)
  clear hb0 HSZ2 HB0 t hz hrl hr0
  by_cases hz : r2 < 0
  · have t : decide (r2 < 0) = true := decide_eq_true hz
    clear hr
    go_wp2_with fail
    go_ret
    exact ⟨rfl, unhide HB1⟩
  have t : decide (r2 < 0) = false := decide_eq_false hz
  obtain ⟨hb2, hrl⟩ := hr (by omega)
  have hr0 : 0 ≤ r2 := by omega
  clear hr
  go_wp2_with fail
  refine (unhide HSZ3 r2 _ hr0 hrl (unhide HB1)).mono ?_
  rintro e W000 ⟨⟨r3, rfl, hr⟩, rfl⟩
  have HB00 := hide (unhide HB1)
  clear HSZ3 HB1 t hz hrl hr0
  by_cases hz : r3 < 0
  · have t : decide (r3 < 0) = true := decide_eq_true hz
    clear hr
    go_wp2_with fail
    go_ret
    exact ⟨rfl, unhide HB00⟩
  have t : decide (r3 < 0) = false := decide_eq_false hz
  have hb3 : n3 ≤ 1048576 := (hr (by omega)).1
  have HT1 := hide (unhide HT1 hb1)
  have HT2 := hide (unhide HT2 hb2)
  have HT3 := hide (unhide HT3 hb3)
  have HM := hide (unhide HM hb1 hb2 hb3)
  have HP := hide (unhide HP hb1 hb2 hb3)
  have HE1 := hide (unhide HE1 hb1)
  have HE2 := hide (unhide HE2 hb2)
  have HE3 := hide (unhide HE3 hb3)
  have HKS := hide (unhide HKS hb3)
  clear hr
  go_wp2_with fail
  refine (unhide HT1 _ (unhide HB00)).mono ?_
  rintro e W1 ⟨⟨g1, rfl, hg1, hk⟩, hb⟩
  have K1 := hide (bc (unhide HB00) hb)
  have K2 := hide (hk)
  clear hb hk hg1
  go_wp2_with fail
  refine (unhide HT2 _ (unhide K1)).mono ?_
  rintro e W2 ⟨⟨g2, rfl, hg2, hk⟩, hb⟩
  have K3 := hide (bc (unhide K1) hb)
  have K4 := hide ((unhide K2).bel hb)
  have K5 := hide (hk)
  clear hb hk hg2
  go_wp2_with fail
  refine (unhide HT3 _ (unhide K3)).mono ?_
  rintro e W2b ⟨⟨g2b, rfl, hg2b, hk⟩, hb⟩
  have K6 := hide (bc (unhide K3) hb)
  have K7 := hide ((unhide K4).bel hb)
  have K8 := hide ((unhide K5).bel hb)
  have K9 := hide (hk)
  clear hb hk hg2b
  go_wp2_with fail
  refine (unhide HM _ _ _ _ (unhide K7) (unhide K8) (unhide K9)).mono ?_
  rintro e W3 ⟨⟨v1, c, es, rfl, hans, hrow⟩, hb⟩
  have K10 := hide (bc (unhide K6) hb)
  have hlen := hans.len
  have hrow2 : FRow W3 W2b.heap.size v1 es := hrow
  have HPX : Hid (∀ g h k X, vb X g 57 (flatG ftc B) → vb X h 57 (flatG ftc L) → vb X k 9 (strs ns) → Calls Try.prog 24 #[.slice (some ⟨g, 0, none⟩) n1 n1, .slice (some ⟨h, 0, none⟩) n2 n2, .slice (some ⟨k, 0, none⟩) n3 n3] X fun e w' => (∃ a k, e = .returned (.tuple #[.slice a es.length k, .int .i64 c]) ∧ FRow w' X.heap.size (.slice a es.length k) es) ∧ Below X.heap.size X w') := hide (fun g h k X hX hY hZ => (unhide HP g h k X hX hY hZ).mono (by
    rintro e w' ⟨⟨v, c', es', rfl, hans', hr'⟩, hb'⟩
    obtain ⟨rfl, rfl⟩ := hans'.uniq hans
    have hr2 : FRow w' X.heap.size v es' := hr'
    obtain ⟨a, k, p, rfl, _⟩ := hr2.form
    exact ⟨⟨a, k, rfl, hr2⟩, hb'⟩))
  obtain ⟨aw, kw, pw, rfl, hsl⟩ := hrow2.form
  have HMB : Hid (∀ W, Below W3.heap.size W3 W → SlG ftc 15 W aw pw 0 es) := hide (fun W hW => hsl.bel hW)
  have HSB := hide (fun (a b : Option Addr) (q1 q2 j1 j2 : Nat) (W : World) (ha : SlG ftc 15 W a q1 0 es) (hb' : SlG ftc 15 W b q2 0 es) => ft_same a b q1 0 q2 0 es.length j1 j2 es W rfl (by omega) ha hb')
  have HMK := hide (fun (a : Option Addr) (k BB : Nat) (W : World) (h : FRow W BB (.slice a es.length k) es) (hB : BB ≤ W.heap.size) => ft_markO a BB es.length k 1 es W rfl (by omega) (by omega) (by omega) h hB)
  have HFM := hide (fun (a : Option Addr) (k BB : Nat) (W : World) (h : FRow W BB (.slice a es.length k) es) => h.form)
  obtain ⟨N, hN⟩ : ∃ N, es.length = N := ⟨_, rfl⟩
  rw [hN] at HPX HSB HMK HFM hlen ⊢
  have HMF : Hid (∀ (a : Option Addr) (k BB : Nat) (W : World), W.ownsRow BB 57 15 (.slice a N k) N (flatG ftc (mkFs 1 N)) → ∃ p, SlG ftc 15 W a p 0 (mkFs 1 N)) := hide (fun a k BB W h => by
    have h2 : FRow W BB (.slice a N k) (mkFs 1 N) := by unfold FRow; rw [mkFs_len]; exact h
    obtain ⟨u9, c9, p9, e9, h9⟩ := h2.form
    injection e9 with q1 q2 q3
    subst q1
    exact ⟨p9, h9⟩)
  have cc : (c != c) = false := by simp
  have n0 : (0 : Int) ≤ (N : Int) := Int.natCast_nonneg _
  clear hans hrow hrow2 hsl hN HP HM hb
  have KD : Hid (Below W3.heap.size W3 W3) := hide (Below.refl _ _)
  go_wp2_with fail
  refine (unhide HT1 _ (unhide K10)).mono ?_
  rintro e W4 ⟨⟨g4, rfl, hg4, hk⟩, hb⟩
  have K11 := hide (bc (unhide K10) hb)
  have K12 := hide ((unhide KD).trans (hb.mono (unhide KD).size))
  have K13 := hide (hk)
  have HG4 : Hid (W3.heap.size ≤ g4 ∧ g4 < W4.heap.size) := hide ⟨hg4, hk.lt⟩
  have HS4 := hide hb.size
  clear hb hk hg4
  go_wp2_with fail
  refine (unhide HT2 _ (unhide K11)).mono ?_
  rintro e W5 ⟨⟨g5, rfl, hg5, hk⟩, hb⟩
  have K14 := hide (bc (unhide K11) hb)
  have K15 := hide ((unhide K12).trans (hb.mono (unhide K12).size))
  have K16 := hide ((unhide K13).bel hb)
  have K17 := hide (hk)
  have HG5 : Hid (W4.heap.size ≤ g5 ∧ g5 < W5.heap.size) := hide ⟨hg5, hk.lt⟩
  have HS5 := hide hb.size
  clear hb hk hg5
  go_wp2_with fail
  refine (unhide HT3 _ (unhide K14)).mono ?_
  rintro e W5b ⟨⟨g5b, rfl, hg5b, hk⟩, hb⟩
  have K18 := hide (bc (unhide K14) hb)
  have K19 := hide ((unhide K15).trans (hb.mono (unhide K15).size))
  have K20 := hide ((unhide K16).bel hb)
  have K21 := hide ((unhide K17).bel hb)
  have K22 := hide (hk)
  have HG5b : Hid (W5.heap.size ≤ g5b ∧ g5b < W5b.heap.size) := hide ⟨hg5b, hk.lt⟩
  have HS5b := hide hb.size
  clear hb hk hg5b
  have KZ : Hid (Below W5b.heap.size W5b W5b) := hide (Below.refl _ _)
  have HS3 : Hid (w.heap.size ≤ W3.heap.size) := hide (unhide K10).size
  go_wp2_with fail
  refine (unhide HPX _ _ _ _ (unhide K20) (unhide K21) (unhide K22)).mono ?_
  rintro e W6 ⟨⟨a6, k6, rfl, hr6⟩, hb⟩
  have K23 := hide (bc (unhide K18) hb)
  have K24 := hide ((unhide K19).trans (hb.mono (unhide K19).size))
  have K25 := hide ((unhide K20).bel hb)
  have K26 := hide ((unhide K21).bel hb)
  have K27 := hide ((unhide K22).bel hb)
  have K28 := hide ((unhide KZ).trans (hb.mono (unhide KZ).size))
  have K29 := hide (hr6)
  clear hb hr6
  obtain ⟨_, _, q6, e6, hq6⟩ := unhide HFM _ _ _ _ (unhide K29)
  injection e6 with e61 e62 e63
  subst e61
  have HQ6 := hide hq6
  clear hq6 e62 e63
  go_wp2_with fail
  refine (unhide HSB a6 aw _ _ k6 kw _ (unhide HQ6) (unhide HMB _ (unhide K24))).mono ?_
  rintro e W7 ⟨rfl, hb⟩
  have K30 := hide (bc (unhide K23) hb)
  have K31 := hide ((unhide K24).trans (hb.mono (unhide K24).size))
  have K32 := hide ((unhide K25).bel hb)
  have K33 := hide ((unhide K26).bel hb)
  have K34 := hide ((unhide K27).bel hb)
  have K35 := hide ((unhide K28).trans (hb.mono (unhide K28).size))
  have K36 := hide ((unhide K29).bel hb)
  clear hb HQ6
  go_wp2_with fail
  refine (unhide HT1 _ (unhide K30)).mono ?_
  rintro e W8 ⟨⟨g8, rfl, hg8, hk⟩, hb⟩
  have K37 := hide (bc (unhide K30) hb)
  have K38 := hide ((unhide K31).trans (hb.mono (unhide K31).size))
  have K39 := hide ((unhide K32).bel hb)
  have K40 := hide ((unhide K33).bel hb)
  have K41 := hide ((unhide K34).bel hb)
  have K42 := hide ((unhide K35).trans (hb.mono (unhide K35).size))
  have K43 := hide ((unhide K36).bel hb)
  have K44 := hide (hk)
  clear hb hk hg8
  go_wp2_with fail
  refine (unhide HE1 _ _ _ (unhide K39) (unhide K44)).mono ?_
  rintro e W9 ⟨rfl, hb⟩
  have K45 := hide (bc (unhide K37) hb)
  have K46 := hide ((unhide K38).trans (hb.mono (unhide K38).size))
  have K47 := hide ((unhide K39).bel hb)
  have K48 := hide ((unhide K40).bel hb)
  have K49 := hide ((unhide K41).bel hb)
  have K50 := hide ((unhide K42).trans (hb.mono (unhide K42).size))
  have K51 := hide ((unhide K43).bel hb)
  clear hb
  go_wp2_with fail
  refine (unhide HT2 _ (unhide K45)).mono ?_
  rintro e WA ⟨⟨gA, rfl, hgA, hk⟩, hb⟩
  have K52 := hide (bc (unhide K45) hb)
  have K53 := hide ((unhide K46).trans (hb.mono (unhide K46).size))
  have K54 := hide ((unhide K47).bel hb)
  have K55 := hide ((unhide K48).bel hb)
  have K56 := hide ((unhide K49).bel hb)
  have K57 := hide ((unhide K50).trans (hb.mono (unhide K50).size))
  have K58 := hide ((unhide K51).bel hb)
  have K59 := hide (hk)
  clear hb hk hgA
  go_wp2_with fail
  refine (unhide HE2 _ _ _ (unhide K55) (unhide K59)).mono ?_
  rintro e WB ⟨rfl, hb⟩
  have K60 := hide (bc (unhide K52) hb)
  have K61 := hide ((unhide K53).trans (hb.mono (unhide K53).size))
  have K62 := hide ((unhide K54).bel hb)
  have K63 := hide ((unhide K55).bel hb)
  have K64 := hide ((unhide K56).bel hb)
  have K65 := hide ((unhide K57).trans (hb.mono (unhide K57).size))
  have K66 := hide ((unhide K58).bel hb)
  clear hb
  go_wp2_with fail
  refine (unhide HT3 _ (unhide K60)).mono ?_
  rintro e WAb ⟨⟨gAb, rfl, hgAb, hk⟩, hb⟩
  have K67 := hide (bc (unhide K60) hb)
  have K68 := hide ((unhide K61).trans (hb.mono (unhide K61).size))
  have K69 := hide ((unhide K62).bel hb)
  have K70 := hide ((unhide K63).bel hb)
  have K71 := hide ((unhide K64).bel hb)
  have K72 := hide ((unhide K65).trans (hb.mono (unhide K65).size))
  have K73 := hide ((unhide K66).bel hb)
  have K74 := hide (hk)
  clear hb hk hgAb
  go_wp2_with fail
  refine (unhide HE3 _ _ _ (unhide K71) (unhide K74)).mono ?_
  rintro e WBb ⟨rfl, hb⟩
  have K75 := hide (bc (unhide K67) hb)
  have K76 := hide ((unhide K68).trans (hb.mono (unhide K68).size))
  have K77 := hide ((unhide K69).bel hb)
  have K78 := hide ((unhide K70).bel hb)
  have K79 := hide ((unhide K71).bel hb)
  have K80 := hide ((unhide K72).trans (hb.mono (unhide K72).size))
  have K81 := hide ((unhide K73).bel hb)
  clear hb
  go_wp2_with fail
  refine (ft_mark (some ⟨g4, 0, none⟩) g4 n1 n1 1 (flatG ftc B) _ (unhide HFL1) hb1 (by omega) (by omega) rfl (unhide K77)).mono ?_
  rintro e WC ⟨he, hmw⟩
  obtain ⟨k1, hk1⟩ : ∃ k1 : Nat, (k1 : Int) = ((1 : Nat) : Int) + 15 * (n1 : Int) := ⟨1 + 15 * n1, by omega⟩
  obtain rfl : e = .returned (.int .i64 (k1 : Int)) := he.trans (ret_int hk1.symm)
  clear he
  obtain ⟨z1, z2⟩ := unhide HG4
  obtain ⟨z3, z4⟩ := unhide HG5
  obtain ⟨z8, z9⟩ := unhide HG5b
  have z5 := unhide HS4
  have z6 := unhide HS5
  have z7 := unhide HS3
  have z10 := unhide HS5b
  have K82 := hide ((unhide K75).trans (hmw.below (by omega) (unhide K75).size))
  have K83 := hide ((unhide K76).trans (hmw.below (by omega) (unhide K76).size))
  have ZA := hide (Nat.le_trans (unhide K80).size hmw.size)
  have K84 := hide ((unhide K78).mw' hmw (by omega))
  have K85 := hide ((unhide K79).mw' hmw (by omega))
  have K86 := hide ((unhide K81).mw hmw (by omega))
  clear hmw
  clear z1 z2 z3 z4 z5 z6 z7 z8 z9 z10
  have hk1b : k1 ≤ 15728641 := by omega
  have hk1c : 0 < k1 := by omega
  clear hk1
  go_wp2_with fail
  refine (ft_mark (some ⟨g5, 0, none⟩) g5 n2 n2 k1 (flatG ftc L) _ (unhide HFL2) hb2 (by omega) (by omega) rfl (unhide K84)).mono ?_
  rintro e WD ⟨he, hmw⟩
  obtain ⟨k2, hk2⟩ : ∃ k2 : Nat, (k2 : Int) = (k1 : Int) + 15 * (n2 : Int) := ⟨k1 + 15 * n2, by omega⟩
  obtain rfl : e = .returned (.int .i64 (k2 : Int)) := he.trans (ret_int hk2.symm)
  clear he
  obtain ⟨z1, z2⟩ := unhide HG4
  obtain ⟨z3, z4⟩ := unhide HG5
  obtain ⟨z8, z9⟩ := unhide HG5b
  have z5 := unhide HS4
  have z6 := unhide HS5
  have z7 := unhide HS3
  have z10 := unhide HS5b
  have K87 := hide ((unhide K82).trans (hmw.below (by omega) (unhide K82).size))
  have K88 := hide ((unhide K83).trans (hmw.below (by omega) (unhide K83).size))
  have ZB := hide (Nat.le_trans (unhide ZA) hmw.size)
  have K89 := hide ((unhide K85).mw' hmw (by omega))
  have K90 := hide ((unhide K86).mw hmw (by omega))
  clear hmw
  clear z1 z2 z3 z4 z5 z6 z7 z8 z9 z10
  have hk2b : k2 ≤ 31457281 := by omega
  have hk2c : 0 < k2 := by omega
  clear hk2 hk1b hk1c
  go_wp2_with fail
  refine (unhide HKS g5b k2 _ (by omega) (by omega) (unhide K89)).mono ?_
  rintro e WD2 ⟨he, _, hm0, hm1⟩
  obtain ⟨k3, hk3⟩ : ∃ k3 : Int, k3 = (k2 : Int) + (n3 : Int) := ⟨_, rfl⟩
  obtain rfl : e = .returned (.int .i64 k3) := he.trans (ret_int hk3.symm)
  clear he
  have hmw : Mw g5b WD WD2 := by
    by_cases h : n3 = 0
    · rw [hm0 h]; exact Mw.refl _ _
    · obtain ⟨g, eg, _, hg⟩ := hm1 h
      cases eg
      exact hg
  obtain ⟨z1, z2⟩ := unhide HG4
  obtain ⟨z3, z4⟩ := unhide HG5
  obtain ⟨z8, z9⟩ := unhide HG5b
  have z5 := unhide HS4
  have z6 := unhide HS5
  have z7 := unhide HS3
  have z10 := unhide HS5b
  have K91 := hide ((unhide K87).trans (hmw.below (by omega) (unhide K87).size))
  have K92 := hide ((unhide K88).trans (hmw.below (by omega) (unhide K88).size))
  have ZC := hide (Nat.le_trans (unhide ZB) hmw.size)
  have K93 := hide ((unhide K90).mw hmw (by omega))
  clear hmw hm0 hm1
  clear z1 z2 z3 z4 z5 z6 z7 z8 z9 z10
  have t2 : decide (k3 < 0) = false := decide_eq_false (by omega)
  have t3 : ¬ k3 < 0 := by omega
  clear hk3 hk2b hk2c
  obtain ⟨_, _, q6, e6, hq6⟩ := unhide HFM _ _ _ _ (unhide K93)
  injection e6 with e61 e62 e63
  subst e61
  have HQ6 := hide hq6
  clear hq6 e62 e63
  go_wp2_with fail
  refine (unhide HSB a6 aw _ _ k6 kw _ (unhide HQ6) (unhide HMB _ (unhide K92))).mono ?_
  rintro e WE ⟨rfl, hb⟩
  have ZE := hide (Nat.le_trans (unhide ZC) hb.size)
  have K94 := hide (bc (unhide K91) hb)
  have K95 := hide ((unhide K92).trans (hb.mono (unhide K92).size))
  have K96 := hide ((unhide K93).bel hb)
  clear hb HQ6
  go_wp2_with fail
  refine (unhide HMK a6 k6 W5b.heap.size _ (unhide K96) (unhide ZE)).mono ?_
  rintro e WF ⟨he, hrF, hbF⟩
  obtain ⟨mm, hmm⟩ : ∃ mm : Int, mm = ((1 : Nat) : Int) + 15 * (N : Int) := ⟨_, rfl⟩
  obtain rfl : e = .returned (.int .i64 mm) := he.trans (ret_int hmm.symm)
  have HMM := hide hmm
  clear he hmm
  obtain ⟨z1, z2⟩ := unhide HG4
  obtain ⟨z3, z4⟩ := unhide HG5
  obtain ⟨z8, z9⟩ := unhide HG5b
  have z5 := unhide HS4
  have z6 := unhide HS5
  have z7 := unhide HS3
  have z10 := unhide HS5b
  have K97 := hide ((unhide K94).trans (hbF.mono (by omega)))
  have K98 := hide ((unhide K95).trans (hbF.mono (by omega)))
  have HRF := hide hrF
  clear hbF hrF
  clear z1 z2 z3 z4 z5 z6 z7 z8 z9 z10
  have mk1 : decide (mm < 0) = false := decide_eq_false (by have := unhide HMM; omega)
  have mk2 : ¬ (mm < 0) := by have := unhide HMM; omega
  have mk3 : (mm != mm) = false := by simp
  obtain ⟨q6, hq6⟩ := unhide HMF _ _ _ _ (unhide HRF)
  have HQ6 := hide hq6
  clear hq6
  go_wp2_with fail
  refine (ft_heldO a6 q6 0 N k6 1 _ (by omega) (by omega) (by omega) (unhide HQ6)).mono ?_
  rintro e WG ⟨he, hb⟩
  obtain rfl : e = .returned (.int .i64 mm) := he.trans (ret_int (unhide HMM).symm)
  have K99 := hide (bc (unhide K97) hb)
  have K100 := hide ((unhide K98).trans (hb.mono (unhide K98).size))
  have HRFWG := hide (own_bel (unhide HRF) hb)
  clear hb he HQ6
  go_wp2_with fail
  refine (unhide HT1 _ (unhide K99)).mono ?_
  rintro e WH ⟨⟨gH, rfl, hgH, hk⟩, hb⟩
  have K101 := hide (bc (unhide K99) hb)
  have K102 := hide ((unhide K100).trans (hb.mono (unhide K100).size))
  have HRFWGWH := hide (own_bel (unhide HRFWG) hb)
  have K103 := hide (hk)
  clear hb hk hgH
  go_wp2_with fail
  refine (unhide HT2 _ (unhide K101)).mono ?_
  rintro e WI ⟨⟨gI, rfl, hgI, hk⟩, hb⟩
  have K104 := hide (bc (unhide K101) hb)
  have K105 := hide ((unhide K102).trans (hb.mono (unhide K102).size))
  have K106 := hide ((unhide K103).bel hb)
  have HRFWGWHWI := hide (own_bel (unhide HRFWGWH) hb)
  have K107 := hide (hk)
  clear hb hk hgI
  go_wp2_with fail
  refine (unhide HT3 _ (unhide K104)).mono ?_
  rintro e WJ ⟨⟨gJ, rfl, hgJ, hk⟩, hb⟩
  have K108 := hide (bc (unhide K104) hb)
  have K109 := hide ((unhide K105).trans (hb.mono (unhide K105).size))
  have K110 := hide ((unhide K106).bel hb)
  have K111 := hide ((unhide K107).bel hb)
  have HRFWGWHWIWJ := hide (own_bel (unhide HRFWGWHWI) hb)
  have K112 := hide (hk)
  clear hb hk hgJ
  go_wp2_with fail
  refine (unhide HPX _ _ _ _ (unhide K110) (unhide K111) (unhide K112)).mono ?_
  rintro e WK ⟨⟨aj, kj, rfl, hrj⟩, hb⟩
  have K113 := hide (bc (unhide K108) hb)
  have K114 := hide ((unhide K109).trans (hb.mono (unhide K109).size))
  have HRFWGWHWIWJWK := hide (own_bel (unhide HRFWGWHWIWJ) hb)
  clear hb
  obtain ⟨_, _, qj, ej, hqj⟩ := unhide HFM _ _ _ _ hrj
  injection ej with ej1 ej2 ej3
  subst ej1
  have HQJ := hide hqj
  clear hqj ej2 ej3 hrj
  go_wp2_with fail
  refine (unhide HSB aj aw _ _ kj kw _ (unhide HQJ) (unhide HMB _ (unhide K114))).mono ?_
  rintro e WL ⟨rfl, hb⟩
  have K115 := hide (bc (unhide K113) hb)
  have K116 := hide ((unhide K114).trans (hb.mono (unhide K114).size))
  have HRFWGWHWIWJWKWL := hide (own_bel (unhide HRFWGWHWIWJWK) hb)
  clear hb HQJ
  obtain ⟨q6, hq6⟩ := unhide HMF _ _ _ _ (unhide HRFWGWHWIWJWKWL)
  have HQ6 := hide hq6
  clear hq6
  go_wp2_with fail
  refine (ft_heldO a6 q6 0 N k6 1 _ (by omega) (by omega) (by omega) (unhide HQ6)).mono ?_
  rintro e WM ⟨he, hb⟩
  obtain rfl : e = .returned (.int .i64 mm) := he.trans (ret_int (unhide HMM).symm)
  have K117 := hide (bc (unhide K115) hb)
  have K118 := hide ((unhide K116).trans (hb.mono (unhide K116).size))
  have HRFWGWHWIWJWKWLWM := hide (own_bel (unhide HRFWGWHWIWJWKWL) hb)
  clear hb he HQ6
  go_wp2_with fail
  go_ret
  exact ⟨rfl, (unhide K117)⟩
theorem fnExactApply_own : ownKnob Try.prog.godebug = none := by kernel_rfl
theorem fnExactApply_laidOut : laidOutB Try.prog = true := by kernel_rfl

set_option maxRecDepth 100000 in
theorem fnExactApply_lifted (os : Os) (started : os.Started) (H : Type) (enc : TypeId × Value → H) :
    ReturnsInHanded {} Try.checked os 5 .any (Rows.fnExactApplySpec.pre6 enc Try.prog Try.f5 Rows.fnExactApplyRow.domain false) (Rows.fnExactApplySpec.post enc Try.prog Try.f5 false true false false) := by
  refine returnsInHanded_of_change (C := Try.checked) fnExactApply_own started (by kernel_rfl) Try.func5
    (ChangeSpec.witness6 (enc := enc) (C := Try.checked) false ⟨#[], #[.slice none 0 0, .slice none 0 0, .slice none 0 0], []⟩ 8 (by kernel_rfl) (by kernel_rfl) (by kernel_rfl) (by kernel_rfl)) ?_
  intro W base args ds gs before hval0 hW hcnd _
  have hval : ∀ (j : Nat) t v, Try.f5.params[j]? = some t → args[j]? = some v → Value.okWide Try.prog W .any base t v := hval0
  have hW' := hW
  obtain ⟨p, q, hA0, hV, rfl, hfz, hnd⟩ := hW
  have hA : DataW.TrodAll enc Try.prog W 0 (fun _ => true) true Try.f5.params.toList args.toList ds p := hA0
  rw [Try.params5] at hA hval
  obtain ⟨v0, vs0, d0, ds0, p0, q0, hargs, rfl, rfl, h0, r0⟩ := trodAll_cons hA
  obtain ⟨v1, vs1, d1, ds1, p1, q1, rfl, rfl, rfl, h1, r1⟩ := trodAll_cons r0
  obtain ⟨v2, vs2, d2, ds2, p2, q2, rfl, rfl, rfl, h2, r2⟩ := trodAll_cons r1
  obtain ⟨rfl, rfl, rfl⟩ := trodAll_nil r2
  obtain rfl : args = #[v0, v1, v2] := by cases args; simp_all
  obtain ⟨rfl, rfl⟩ := trodVars_none hV
  obtain ⟨a0, len0, cap0, rfl⟩ := okWide_slice Try.underlying22 (hval 0 22 v0 rfl rfl)
  have k0 := h0
  have lt0 : ∀ x ∈ p0, x.block < W.heap.size := by obtain ⟨m, hm⟩ := k0; exact DataW.trod_lt m _ _ _ hm
  obtain ⟨pp0, po0, ms0, b0, l0, w0⟩ : ∃ (pp po : Nat) (J : List Ft), len0 ≤ 9223372036854775807 ∧ J.length = len0 ∧ (∀ f ∈ J, f.nm.size ≤ maxLen ∧ f.on.size ≤ maxLen ∧ f.ov.size ≤ maxLen) ∧ SlG ftc 15 W a0 pp po J := by
    obtain ⟨fuel, hf⟩ := h0
    obtain ⟨u, n, cap, pp, po, ms, hcs, hn, hl, hx⟩ := open_fts hf
    simp [Value.cells] at hcs
    obtain ⟨rfl, rfl, rfl⟩ := hcs
    exact ⟨pp, po, ms, hn, hl, hx⟩
  obtain ⟨a1, len1, cap1, rfl⟩ := okWide_slice Try.underlying22 (hval 1 22 v1 rfl rfl)
  have k1 := h1
  have lt1 : ∀ x ∈ p1, x.block < W.heap.size := by obtain ⟨m, hm⟩ := k1; exact DataW.trod_lt m _ _ _ hm
  obtain ⟨pp1, po1, ms1, b1, l1, w1⟩ : ∃ (pp po : Nat) (J : List Ft), len1 ≤ 9223372036854775807 ∧ J.length = len1 ∧ (∀ f ∈ J, f.nm.size ≤ maxLen ∧ f.on.size ≤ maxLen ∧ f.ov.size ≤ maxLen) ∧ SlG ftc 15 W a1 pp po J := by
    obtain ⟨fuel, hf⟩ := h1
    obtain ⟨u, n, cap, pp, po, ms, hcs, hn, hl, hx⟩ := open_fts hf
    simp [Value.cells] at hcs
    obtain ⟨rfl, rfl, rfl⟩ := hcs
    exact ⟨pp, po, ms, hn, hl, hx⟩
  obtain ⟨a2, len2, cap2, rfl⟩ := okWide_slice Try.underlying34 (hval 2 34 v2 rfl rfl)
  have k2 := h2
  have lt2 : ∀ x ∈ p2, x.block < W.heap.size := by obtain ⟨m, hm⟩ := k2; exact DataW.trod_lt m _ _ _ hm
  obtain ⟨pp2, po2, ms2, b2, l2, w2⟩ : ∃ (pp po : Nat) (J : List ByteArray), len2 ≤ 9223372036854775807 ∧ J.length = len2 ∧ (∀ s ∈ J, s.size ≤ maxLen) ∧ StAt W a2 J := by
    obtain ⟨fuel, hf⟩ := h2
    obtain ⟨u, n, cap, pp, po, ms, hcs, hn, hl, hx⟩ := open_sts hf
    simp [Value.cells] at hcs
    obtain ⟨rfl, rfl, rfl⟩ := hcs
    exact ⟨pp, po, ms, hn, hl, hx⟩
  clear hA0 hval0
  refine (fnExactApply_walk a0 len0 cap0 pp0 po0 ms0 a1 len1 cap1 pp1 po1 ms1 a2 len2 cap2 pp2 po2 ms2 W b0 l0 w0 b1 l1 w1 b2 l2 w2).mono fun e W' ⟨he, bel⟩ => ?_
  subst he
  exact ⟨_, rfl, _, _, _, [], _, [], hW', trodAll_mk1 (shut_bool Try.underlying4 _), (trodAll_cons_mk (Below.trod fnExactApply_laidOut (by kernel_rfl) (of_decide_eq_true (by kernel_rfl)) k0 bel lt0) (trodAll_cons_mk (Below.trod fnExactApply_laidOut (by kernel_rfl) (of_decide_eq_true (by kernel_rfl)) k1 bel lt1) (trodAll_cons_mk (Below.trod fnExactApply_laidOut (by kernel_rfl) (of_decide_eq_true (by kernel_rfl)) k2 bel lt2) trodAll_mk0))), rfl, bel.frame _, fun h => by cases h⟩

theorem fnExactApply_over : Rows.fnExactApplyRow.holds Try.pinned (OpenSpec.ofChange Rows.fnExactApplySpec) :=
  OpenClaim.holds_of_wide 5 Try.f5 rfl rfl rfl rfl rfl rfl rfl ⟨rfl, rfl, rfl, rfl, rfl⟩ rfl rfl rfl rfl rfl (by kernel_rfl) Try.func5 (by kernel_rfl)
    (of_decide_eq_true (by kernel_rfl)) (by unfold Func.isWrapper; first | (rw [if_pos (by decide +kernel)]; kernel_rfl) | (rw [if_neg (by decide +kernel)]; exact ⟨rfl, rfl⟩))
    (fun os started H enc _ => fnExactApply_lifted os started H enc)

/-- The statement, as it was given. -/
theorem fnExactApply_holds : Rows.FnExactApplySaid := fnExactApply_over
#print axioms fnExactApply_holds
end Go.Proofs.Ytkkmikgeppkhiaa
