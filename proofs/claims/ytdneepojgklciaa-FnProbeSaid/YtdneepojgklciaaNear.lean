/-
  The nearest of those that are left, by the program.
-/
import Derived.Test.YtdneepojgklciaaStp
namespace Go.Proofs.Ytdneepojgklciaa
open Go.ChangeShapes Go.WideShapes Go.ChangeAt Go.RowKit
set_option linter.unusedVariables false
set_option linter.unusedSimpArgs false

/-- numbers that count, as whole numbers -/
def nums (L : List Nat) : List Int := L.map Int.ofNat
theorem nums_at {L : List Nat} {i b : Nat} (h : L[i]? = some b) : (nums L)[i]? = some (b : Int) := by simp [nums, h]
theorem gd_at {P : List (Int × Int)} {i : Nat} {q : Int × Int} (f : Int × Int) (h : P[i]? = some q) : gd P f i = stp f q := by simp [gd, h]
theorem best_go (g : Nat → Int) (L : List Nat) (i j x b : Nat) (hx : L[i]? = some x) (hj : L[j]? = some b) (hz : i = 0 → j = 0) (hb : 0 < i → best g (L.take i) = some b) :
    best g (L.take (i + 1)) = if g x < g b then some x else some b := by
  rw [best_take g L i x hx]
  by_cases h : 0 < i
  · rw [hb h]; rfl
  · obtain rfl : i = 0 := by omega
    obtain rfl := hz rfl
    obtain rfl : x = b := by rw [hx] at hj; simpa using hj
    rw [if_neg (by omega)]; rfl
theorem bxn {R : Nat} {w W w' : World} {v : Value} (h : Below R w W) (c : W.cell? ⟨R, 0, none⟩ = some v) (hb : Below W.heap.size W w') : Below R w w' := h.trans (hb.mono (Nat.le_of_lt (cell_lt c)))
theorem bxd {R : Nat} {w W w' : World} {v : Value} (h : Below R w W) (c : W.cell? ⟨R, 0, none⟩ = some v) (hb : Below W.drew.heap.size W.drew w') : Below R w w' := h.drew.trans (hb.mono (Nat.le_of_lt (cell_lt c)))
set_option maxHeartbeats 2000000 in
set_option maxRecDepth 100000 in
theorem near_any (p po cu D o m c : Nat) (P : List (Int × Int)) (L : List Nat) (f : Int × Int) (n : Nat) (w : World) (hPn : P.length = n) (hP : ∀ q ∈ P, Rpt q) (hf : Rpt f) (hL : ∀ i ∈ L, i < n) (hm : L.length = m) (hm0 : 0 < m) (hmn : m ≤ 200) (hn : n ≤ 200)
    (hc : PtsAt w p po P) (hl : IntsAt w D o (nums L)) :
    Calls Try.prog 30 #[.slice (some ⟨p, po, none⟩) n cu, .slice (some ⟨D, o, none⟩) m c, .agg #[.int .i64 f.1, .int .i64 f.2]] w fun e w' => (∃ j b : Nat, e = .returned (.int .i64 (j : Int)) ∧ L[j]? = some b ∧ best (gd P f) L = some b) ∧ Below w.heap.size w w' := by
  obtain ⟨f1, f2⟩ := f
  have HF := hide hf
  have HC := hide hc
  have HL := hide hl
  have HM := hide hm
  have HPN := hide hPn
  have HP := hide hP
  have HLN := hide hL
  have m0 : (0 : Int) ≤ (m : Int) := Int.natCast_nonneg _
  have HBX := hide (ba (Below.refl w.heap.size w) (.cells #[.int .i64 f1, .int .i64 f2] 26))
  have b0 : (w.alloc (.cells #[.int .i64 f1, .int .i64 f2] 26)).cell? ⟨w.heap.size, 0, none⟩ = some (.int .i64 f1) := by simp [go_sem]
  have b1 : (w.alloc (.cells #[.int .i64 f1, .int .i64 f2] 26)).cell? ⟨w.heap.size, 1, none⟩ = some (.int .i64 f2) := by simp [go_sem]
  have B0 := hide b0
  have B1 := hide b1
  obtain ⟨x0, hx0⟩ := (⟨_, List.getElem?_eq_getElem (by omega)⟩ : ∃ b, L[0]? = some b)
  have HX0 := hide hx0
  clear hf hc hl hm hPn hP hL b0 b1 hx0
  go_enter Try.func30, Try.ntmps30
  go_wp2_with fail
  generalize w.alloc (.cells #[.int .i64 f1, .int .i64 f2] 26) = W0 at *
  obtain ⟨R, hR⟩ : ∃ R, w.heap.size = R := ⟨_, rfl⟩
  rw [hR] at HBX B0 B1 ⊢
  have HR := hide hR
  clear hR
  go_loopw [7, 12] (fun z y W => ∃ i j b : Nat, y = .int .i64 (i : Int) ∧ z = .int .i64 (j : Int) ∧ i ≤ m ∧ L[j]? = some b ∧ (i = 0 → j = 0) ∧ (0 < i → best (gd P (f1, f2)) (L.take i) = some b) ∧ Below R w W ∧ W.cell? ⟨R, 0, none⟩ = some (.int .i64 f1) ∧ W.cell? ⟨R, 1, none⟩ = some (.int .i64 f2)) (fun z y _ => m - (intOf y).toNat)
  case atStart =>
    exact ⟨0, 0, x0, rfl, rfl, Nat.zero_le _, unhide HX0, fun _ => rfl, fun h => absurd h (by omega), unhide HBX, unhide B0, unhide B1⟩
  case round =>
    obtain ⟨i, j, b, rfl, rfl, hi, hj, hz, hbe, hw, c0, c1⟩ := hrel
    have HJ := hide hj
    have HZ := hide hz
    have HBE := hide hbe
    have HW := hide hw
    clear HBX B0 B1
    by_cases h : i < m
    · have i1 : decide ((i : Int) < (m : Int)) = true := decide_eq_true (by omega)
      have i0 : (0 : Int) ≤ (i : Int) := Int.natCast_nonneg _
      have i2 : (i : Int) < (m : Int) := by omega
      have j0 : (0 : Int) ≤ (j : Int) := Int.natCast_nonneg _
      have j2 : (j : Int) < (m : Int) := by have := (List.getElem?_eq_some_iff.1 hj).1; have := unhide HM; omega
      obtain ⟨x, hx⟩ : ∃ x, L[i]? = some x := ⟨_, List.getElem?_eq_getElem (by have := unhide HM; omega)⟩
      have HX := hide hx
      have xn := (unhide HLN) x (List.mem_of_getElem? hx)
      have bn := (unhide HLN) b (List.mem_of_getElem? hj)
      have x0 : (0 : Int) ≤ (x : Int) := Int.natCast_nonneg _
      have bb0 : (0 : Int) ≤ (b : Int) := Int.natCast_nonneg _
      have x2 : (x : Int) < (n : Int) := by omega
      have bb2 : (b : Int) < (n : Int) := by omega
      obtain ⟨⟨q1, q2⟩, hq⟩ : ∃ q, P[x]? = some q := ⟨_, List.getElem?_eq_getElem (by have := unhide HPN; omega)⟩
      obtain ⟨⟨r1, r2⟩, hr⟩ : ∃ q, P[b]? = some q := ⟨_, List.getElem?_eq_getElem (by have := unhide HPN; omega)⟩
      have RQ := hide ((unhide HP) _ (List.mem_of_getElem? hq))
      have RR := hide ((unhide HP) _ (List.mem_of_getElem? hr))
      have GQ := hide (gd_at (f1, f2) hq)
      have GR := hide (gd_at (f1, f2) hr)
      have hR : w.heap.size = R := unhide HR
      have up : ∀ {b o : Nat} {v : Value}, w.cell? ⟨b, o, none⟩ = some v → wr.cell? ⟨b, o, none⟩ = some v := fun {b o v} hh => keep1 (hR ▸ hw) hh
      have k0 := up ((unhide HL) i _ (nums_at hx))
      have k1 := up ((unhide HL) j _ (nums_at hj))
      obtain ⟨k2, k3⟩ := (unhide HC) x _ hq
      obtain ⟨k4, k5⟩ := (unhide HC) b _ hr
      replace k2 := up k2
      replace k3 := up k3
      replace k4 := up k4
      replace k5 := up k5
      simp only at k2 k3 k4 k5
      clear hx hj hz hbe hw hq hr up hR
      go_wp2_with fail
      go_region_held3 (fun wx => wx.cell? ⟨R, 0, none⟩ = some (.int .i64 f1) ∧ wx.cell? ⟨R, 1, none⟩ = some (.int .i64 f2) ∧ wx.cell? ⟨D, o + j, none⟩ = some (.int .i64 (b : Int)) ∧ wx.cell? ⟨p, po + x * 2, none⟩ = some (.int .i64 q1) ∧ wx.cell? ⟨p, po + x * 2 + 1, none⟩ = some (.int .i64 q2) ∧ wx.cell? ⟨p, po + b * 2, none⟩ = some (.int .i64 r1) ∧ wx.cell? ⟨p, po + b * 2 + 1, none⟩ = some (.int .i64 r2))
        (simp (maxDischargeDepth := 12) [go_sem, le1, lt1, *])
        (first
        | (go_at_call 31; refine (steps_ints _ _ _ _ _ ?_ ?_).mono ?_; exact unhide HF; (first | exact unhide RQ | exact unhide RR); rintro e w' ⟨rfl, hb⟩; have HW : Hid (Below R w w') := hide (by first | exact bxn (unhide HW) (by assumption) hb | exact bxd (unhide HW) (by assumption) hb); have y0 := keep1 hb (b := R) (o := 0) (v := .int .i64 f1) (by first | assumption | simp (maxDischargeDepth := 12) [go_sem, le1, lt1, *]); have y1 := keep1 hb (b := R) (o := 1) (v := .int .i64 f2) (by first | assumption | simp (maxDischargeDepth := 12) [go_sem, le1, lt1, *]); have y2 := keep1 hb (b := D) (o := o + j) (v := .int .i64 (b : Int)) (by first | assumption | simp (maxDischargeDepth := 12) [go_sem, le1, lt1, *]); have y3 := keep1 hb (b := p) (o := po + x * 2) (v := .int .i64 q1) (by first | assumption | simp (maxDischargeDepth := 12) [go_sem, le1, lt1, *]); have y4 := keep1 hb (b := p) (o := po + x * 2 + 1) (v := .int .i64 q2) (by first | assumption | simp (maxDischargeDepth := 12) [go_sem, le1, lt1, *]); have y5 := keep1 hb (b := p) (o := po + b * 2) (v := .int .i64 r1) (by first | assumption | simp (maxDischargeDepth := 12) [go_sem, le1, lt1, *]); have y6 := keep1 hb (b := p) (o := po + b * 2 + 1) (v := .int .i64 r2) (by first | assumption | simp (maxDischargeDepth := 12) [go_sem, le1, lt1, *]); clear hb))
      all_goals
        by_cases ht : stp (f1, f2) (q1, q2) < stp (f1, f2) (r1, r2)
        · have tt : decide (stp (f1, f2) (q1, q2) < stp (f1, f2) (r1, r2)) = true := decide_eq_true ht
          go_wp2_with fail
          go_roundw
          case rel =>
            refine ⟨i + 1, i, x, by simp, rfl, h, unhide HX, fun h => absurd h (by omega), fun _ => ?_, by repeat (first | exact unhide HW | refine Below.drew ?_), by first | exact y0 | assumption, by first | exact y1 | assumption⟩
            rw [best_go _ L i j x b (unhide HX) (unhide HJ) (unhide HZ) (unhide HBE), unhide GQ, unhide GR, if_pos ht]
          case measure => simp only [intOf]; omega
        · have tt : decide (stp (f1, f2) (q1, q2) < stp (f1, f2) (r1, r2)) = false := decide_eq_false ht
          go_wp2_with fail
          go_roundw
          case rel =>
            refine ⟨i + 1, j, b, by simp, rfl, h, unhide HJ, fun h => absurd h (by omega), fun _ => ?_, by repeat (first | exact unhide HW | refine Below.drew ?_), by first | exact y0 | assumption, by first | exact y1 | assumption⟩
            rw [best_go _ L i j x b (unhide HX) (unhide HJ) (unhide HZ) (unhide HBE), unhide GQ, unhide GR, if_neg ht]
          case measure => simp only [intOf]; omega
    · have i1 : decide ((i : Int) < (m : Int)) = false := decide_eq_false (by omega)
      obtain rfl : i = m := by omega
      clear hj hz hbe hw
      go_wp2_with fail
      go_ret
      have hb := (unhide HBE) hm0
      rw [List.take_of_length_le (by have := unhide HM; omega)] at hb
      exact ⟨⟨j, b, rfl, unhide HJ, hb⟩, by rw [unhide HR]; exact unhide HW⟩
end Go.Proofs.Ytdneepojgklciaa
