/-
  What the laws ask of rows of features: that two are the same, that one is made of another, how much there is of it.
-/
import Derived.Test.YtkkmikgeppkhiaaCkM
namespace Go.Proofs.Ytkkmikgeppkhiaa
open Go.ChangeShapes Go.WideShapes Go.ChangeAt Go.RowKit
set_option linter.unusedVariables false
set_option linter.unusedSimpArgs false

theorem bxE_one (x0 y0 z0 x1 y1 z1 : Int) (w : World) : Calls Try.prog 58 #[.agg #[.int .i64 x0, .int .i64 y0, .int .i64 z0, .int .i64 x1, .int .i64 y1, .int .i64 z1], .agg #[.int .i64 x0, .int .i64 y0, .int .i64 z0, .int .i64 x1, .int .i64 y1, .int .i64 z1]] w fun e w' => e = .returned (.bool true) ∧ Below w.heap.size w w' := by
  go_enter Try.func58, Try.ntmps58
  go_wp2
  go_ret
  exact ⟨rfl, ba (ba (Below.refl _ _) _) _⟩
set_option maxRecDepth 100000 in
set_option maxHeartbeats 1000000 in
theorem ftE_one (s o v : ByteArray) (k d x0 y0 z0 x1 y1 z1 ct dx dy dz : Int) (w : World) : Calls Try.prog 36 #[.agg #[.string s, .string o, .string v, .int .i64 k, .int .i64 d, .int .i64 x0, .int .i64 y0, .int .i64 z0, .int .i64 x1, .int .i64 y1, .int .i64 z1, .int .i64 ct, .int .i64 dx, .int .i64 dy, .int .i64 dz], .agg #[.string s, .string o, .string v, .int .i64 k, .int .i64 d, .int .i64 x0, .int .i64 y0, .int .i64 z0, .int .i64 x1, .int .i64 y1, .int .i64 z1, .int .i64 ct, .int .i64 dx, .int .i64 dy, .int .i64 dz]] w fun e w' => e = .returned (.bool true) ∧ Below w.heap.size w w' := by
  have HB := hide (fun W => bxE_one x0 y0 z0 x1 y1 z1 W)
  have V1 := hide ((vb_new w 57 (ftc ⟨s, o, v, k, d, x0, y0, z0, x1, y1, z1, ct, dx, dy, dz⟩) _ rfl).bel (ba (Below.refl _ _) (.cells (ftc ⟨s, o, v, k, d, x0, y0, z0, x1, y1, z1, ct, dx, dy, dz⟩).toArray 57)))
  have V2 := hide (vb_new (w.alloc (.cells (ftc ⟨s, o, v, k, d, x0, y0, z0, x1, y1, z1, ct, dx, dy, dz⟩).toArray 57)) 57 (ftc ⟨s, o, v, k, d, x0, y0, z0, x1, y1, z1, ct, dx, dy, dz⟩) _ rfl)
  simp only [World.size_alloc] at V2
  go_enter Try.func36, Try.ntmps36
  go_wp2_with fail
  refine (unhide HB _).mono ?_
  rintro e W1 ⟨rfl, hb⟩
  have a1 := ((unhide V1).bel hb).cell (m := 11) rfl
  have a2 := ((unhide V1).bel hb).cell (m := 12) rfl
  have a3 := ((unhide V1).bel hb).cell (m := 13) rfl
  have a4 := ((unhide V1).bel hb).cell (m := 14) rfl
  have b1 := ((unhide V2).bel hb).cell (m := 11) rfl
  have b2 := ((unhide V2).bel hb).cell (m := 12) rfl
  have b3 := ((unhide V2).bel hb).cell (m := 13) rfl
  have b4 := ((unhide V2).bel hb).cell (m := 14) rfl
  simp only at a1 a2 a3 a4 b1 b2 b3 b4
  have HB1 := hide (bc (ba (ba (Below.refl w.heap.size w) (.cells #[.string s, .string o, .string v, .int .i64 k, .int .i64 d, .int .i64 x0, .int .i64 y0, .int .i64 z0, .int .i64 x1, .int .i64 y1, .int .i64 z1, .int .i64 ct, .int .i64 dx, .int .i64 dy, .int .i64 dz] 57)) (.cells #[.string s, .string o, .string v, .int .i64 k, .int .i64 d, .int .i64 x0, .int .i64 y0, .int .i64 z0, .int .i64 x1, .int .i64 y1, .int .i64 z1, .int .i64 ct, .int .i64 dx, .int .i64 dy, .int .i64 dz] 57)) hb)
  clear hb
  go_wp2_with fail
  go_ret
  exact ⟨rfl, unhide HB1⟩

set_option maxRecDepth 100000 in
set_option maxHeartbeats 4000000 in
theorem ft_same (u v : Option Addr) (p po q qo n cu cv : Nat) (fs : List Ft) (w : World) (hl : fs.length = n) (hn : n ≤ 1048576) (hu : SlG ftc 15 w u p po fs) (hv : SlG ftc 15 w v q qo fs) :
    Calls Try.prog 11 #[.slice u n cu, .slice v n cv] w fun e w' => e = .returned (.bool true) ∧ Below w.heap.size w w' := by
  have HU := hide hu
  have HV := hide hv
  have HL := hide hl
  clear hu hv hl
  go_enter Try.func11, Try.ntmps11
  go_wp2
  go_loopw [5] (fun s W => ∃ i : Nat, s = .int .i64 (i : Int) ∧ i ≤ n ∧ Below w.heap.size w W) (fun s _ => n - (intOf s).toNat)
  case atStart => exact ⟨0, rfl, Nat.zero_le _, Below.refl _ _⟩
  case round =>
    obtain ⟨i, rfl, hi, hw⟩ := hrel
    have HW := hide hw
    clear hw
    by_cases h : i < n
    · have i1 : (i : Int) < (n : Int) := by omega
      have i0 : (0 : Int) ≤ (i : Int) := Int.natCast_nonneg _
      have iz : decide ((i : Int) < (n : Int)) = true := decide_eq_true i1
      obtain ⟨⟨s, o, v, k, d, x0, y0, z0, x1, y1, z1, ct, dx, dy, dz⟩, hx⟩ := get_some (unhide HL) h
      obtain ⟨rfl, k0, k1, k2, k3, k4, k5, k6, k7, k8, k9, k10, k11, k12, k13, k14⟩ := ((unhide HU).bel (unhide HW)).at15 hx
      obtain ⟨rfl, l0, l1, l2, l3, l4, l5, l6, l7, l8, l9, l10, l11, l12, l13, l14⟩ := ((unhide HV).bel (unhide HW)).at15 hx
      simp only at k0 k1 k2 k3 k4 k5 k6 k7 k8 k9 k10 k11 k12 k13 k14 l0 l1 l2 l3 l4 l5 l6 l7 l8 l9 l10 l11 l12 l13 l14
      clear hx
      go_wp2_with fail
      go_region_held3 (fun wx => wx.cell? ⟨p, po + i * 15, none⟩ = some (.string s) ∧ wx.cell? ⟨p, po + i * 15 + 1, none⟩ = some (.string o) ∧ wx.cell? ⟨p, po + i * 15 + 2, none⟩ = some (.string v) ∧ wx.cell? ⟨p, po + i * 15 + 3, none⟩ = some (.int .i64 k) ∧ wx.cell? ⟨p, po + i * 15 + 4, none⟩ = some (.int .i64 d) ∧ wx.cell? ⟨p, po + i * 15 + 5, none⟩ = some (.int .i64 x0) ∧ wx.cell? ⟨p, po + i * 15 + 6, none⟩ = some (.int .i64 y0) ∧ wx.cell? ⟨p, po + i * 15 + 7, none⟩ = some (.int .i64 z0) ∧ wx.cell? ⟨p, po + i * 15 + 8, none⟩ = some (.int .i64 x1) ∧ wx.cell? ⟨p, po + i * 15 + 9, none⟩ = some (.int .i64 y1) ∧ wx.cell? ⟨p, po + i * 15 + 10, none⟩ = some (.int .i64 z1) ∧ wx.cell? ⟨p, po + i * 15 + 11, none⟩ = some (.int .i64 ct) ∧ wx.cell? ⟨p, po + i * 15 + 12, none⟩ = some (.int .i64 dx) ∧ wx.cell? ⟨p, po + i * 15 + 13, none⟩ = some (.int .i64 dy) ∧ wx.cell? ⟨p, po + i * 15 + 14, none⟩ = some (.int .i64 dz) ∧ wx.cell? ⟨q, qo + i * 15, none⟩ = some (.string s) ∧ wx.cell? ⟨q, qo + i * 15 + 1, none⟩ = some (.string o) ∧ wx.cell? ⟨q, qo + i * 15 + 2, none⟩ = some (.string v) ∧ wx.cell? ⟨q, qo + i * 15 + 3, none⟩ = some (.int .i64 k) ∧ wx.cell? ⟨q, qo + i * 15 + 4, none⟩ = some (.int .i64 d) ∧ wx.cell? ⟨q, qo + i * 15 + 5, none⟩ = some (.int .i64 x0) ∧ wx.cell? ⟨q, qo + i * 15 + 6, none⟩ = some (.int .i64 y0) ∧ wx.cell? ⟨q, qo + i * 15 + 7, none⟩ = some (.int .i64 z0) ∧ wx.cell? ⟨q, qo + i * 15 + 8, none⟩ = some (.int .i64 x1) ∧ wx.cell? ⟨q, qo + i * 15 + 9, none⟩ = some (.int .i64 y1) ∧ wx.cell? ⟨q, qo + i * 15 + 10, none⟩ = some (.int .i64 z1) ∧ wx.cell? ⟨q, qo + i * 15 + 11, none⟩ = some (.int .i64 ct) ∧ wx.cell? ⟨q, qo + i * 15 + 12, none⟩ = some (.int .i64 dx) ∧ wx.cell? ⟨q, qo + i * 15 + 13, none⟩ = some (.int .i64 dy) ∧ wx.cell? ⟨q, qo + i * 15 + 14, none⟩ = some (.int .i64 dz))
        (simp (maxDischargeDepth := 12) [go_sem, le1, lt1, *])
        (first
        | (go_at_call 36; refine (ftE_one _ _ _ _ _ _ _ _ _ _ _ _ _ _ _ _).mono ?_; rintro e w' ⟨rfl, hb⟩; have HB := hide hb; have ya0 := keep1 hb (b := p) (o := _) (v := .string s) k0; have ya1 := keep1 hb (b := p) (o := _) (v := .string o) k1; have ya2 := keep1 hb (b := p) (o := _) (v := .string v) k2; have ya3 := keep1 hb (b := p) (o := _) (v := .int .i64 k) k3; have ya4 := keep1 hb (b := p) (o := _) (v := .int .i64 d) k4; have ya5 := keep1 hb (b := p) (o := _) (v := .int .i64 x0) k5; have ya6 := keep1 hb (b := p) (o := _) (v := .int .i64 y0) k6; have ya7 := keep1 hb (b := p) (o := _) (v := .int .i64 z0) k7; have ya8 := keep1 hb (b := p) (o := _) (v := .int .i64 x1) k8; have ya9 := keep1 hb (b := p) (o := _) (v := .int .i64 y1) k9; have ya10 := keep1 hb (b := p) (o := _) (v := .int .i64 z1) k10; have ya11 := keep1 hb (b := p) (o := _) (v := .int .i64 ct) k11; have ya12 := keep1 hb (b := p) (o := _) (v := .int .i64 dx) k12; have ya13 := keep1 hb (b := p) (o := _) (v := .int .i64 dy) k13; have ya14 := keep1 hb (b := p) (o := _) (v := .int .i64 dz) k14; have za0 := keep1 hb (b := q) (o := _) (v := .string s) l0; have za1 := keep1 hb (b := q) (o := _) (v := .string o) l1; have za2 := keep1 hb (b := q) (o := _) (v := .string v) l2; have za3 := keep1 hb (b := q) (o := _) (v := .int .i64 k) l3; have za4 := keep1 hb (b := q) (o := _) (v := .int .i64 d) l4; have za5 := keep1 hb (b := q) (o := _) (v := .int .i64 x0) l5; have za6 := keep1 hb (b := q) (o := _) (v := .int .i64 y0) l6; have za7 := keep1 hb (b := q) (o := _) (v := .int .i64 z0) l7; have za8 := keep1 hb (b := q) (o := _) (v := .int .i64 x1) l8; have za9 := keep1 hb (b := q) (o := _) (v := .int .i64 y1) l9; have za10 := keep1 hb (b := q) (o := _) (v := .int .i64 z1) l10; have za11 := keep1 hb (b := q) (o := _) (v := .int .i64 ct) l11; have za12 := keep1 hb (b := q) (o := _) (v := .int .i64 dx) l12; have za13 := keep1 hb (b := q) (o := _) (v := .int .i64 dy) l13; have za14 := keep1 hb (b := q) (o := _) (v := .int .i64 dz) l14; clear hb))
      all_goals
        go_wp2_with fail
        go_roundw
        case rel => exact ⟨i + 1, by simp, h, by repeat (first | exact unhide HW | refine bc ?_ (unhide HB) | refine Below.drew ?_)⟩
        case measure => simp only [intOf]; omega
    · have i1 : ¬ (i : Int) < (n : Int) := by omega
      have iz : decide ((i : Int) < (n : Int)) = false := decide_eq_false i1
      go_wp2_with fail
      go_ret
      exact ⟨rfl, unhide HW⟩
end Go.Proofs.Ytkkmikgeppkhiaa
