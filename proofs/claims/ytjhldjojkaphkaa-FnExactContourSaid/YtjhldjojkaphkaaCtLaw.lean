/-
  The program's Contour answers as the model at every field and height, right or not; it changes none; its corners lie in memory of their own.
-/
import Derived.Test.YtjhldjojkaphkaaCtB
import Derived.Test.YtjhldjojkaphkaaMkRows
import Derived.Test.YtjhldjojkaphkaaMarkR
import Derived.Test.YtjhldjojkaphkaaOpenRows
import Derived.Test.YtjhldjojkaphkaaChecked
import Derived.Test.YtjhldjojkaphkaaRows
import Derived.ChangeOld
import Derived.Lib.SmallJoins
namespace Go.Proofs.Ytjhldjojkaphkaa
open Go.ChangeShapes Go.WideShapes Go.ChangeAt Go.RowKit Go.Joins
set_option linter.unusedVariables false
set_option linter.unusedSimpArgs false

theorem its_of {w : World} {u : Option Addr} {n : Nat} {L : List Int} (hl : L.length = n) (h : n ≠ 0 → ∃ p po, u = some ⟨p, po, none⟩ ∧ p < w.heap.size ∧ IntsAt w p po L) : ∃ p po, Its w u p po L := by
  by_cases hn : n = 0
  · exact ⟨0, 0, fun h0 => absurd (List.eq_nil_of_length_eq_zero (by omega)) h0⟩
  · obtain ⟨p, po, h1, h2, h3⟩ := h hn
    exact ⟨p, po, fun _ => ⟨h1, h2, h3⟩⟩
theorem iblk.its {w : World} {g : Nat} {L : List Int} (h : iblk w g 3 L) : Its w (some ⟨g, 0, none⟩) g 0 L := fun _ => ⟨rfl, h.lt, h.ints⟩
/-- a row of points, where it is not empty -/
theorem Row.pts {X : World} {B m cc : Nat} {u : Option Addr} {F : List Int} (h : Row X B 46 2 (.slice u m cc) m F) : m ≠ 0 → u = some ⟨bo u, 0, none⟩ ∧ bo u < X.heap.size ∧ IntsAt X (bo u) 0 F := by
  intro h0
  obtain ⟨u', c', hv, hf⟩ := h.form
  cases hv
  obtain ⟨g, rfl, h1, h2, h3⟩ := hf h0
  exact ⟨rfl, h2, h3⟩
/-- what the law has in hand -/
structure Cs (w : World) (W H : Int) (u : Option Addr) (n c b8 gx : Nat) (uw ug : Option Addr) (m cw cg : Nat) (F LX FG : List Int) (X : World) : Prop where
  bel : Below w.heap.size w X
  v2 : vb X w.heap.size 49 [.int .i64 W, .int .i64 H, .slice u n c]
  v8 : vb X b8 25 [.int .i64 W, .int .i64 H, .slice (some ⟨gx, 0, none⟩) n n]
  rw : Row X (w.heap.size + 1) 46 2 (.slice uw m cw) m F
  rx : Row X (w.heap.size + 1) 3 1 (.slice (some ⟨gx, 0, none⟩) n n) n LX
  rg : Row X (b8 + 1) 46 2 (.slice ug m cg) m FG
  ow : ∀ b, (Value.slice uw m cw).ownBlock = some b → b < gx
  ox : w.heap.size < gx ∧ gx < b8
theorem Cs.next {w : World} {W H : Int} {u : Option Addr} {n c b8 gx : Nat} {uw ug : Option Addr} {m cw cg : Nat} {F LX FG : List Int} {X X' : World} (h : Cs w W H u n c b8 gx uw ug m cw cg F LX FG X) (hb : Below X.heap.size X X') : Cs w W H u n c b8 gx uw ug m cw cg F LX FG X' :=
  ⟨bc h.bel hb, h.v2.bel hb, h.v8.bel hb, h.rw.below hb, h.rx.below hb, h.rg.below hb, h.ow, h.ox⟩
theorem Cs.markX {w : World} {W H : Int} {u : Option Addr} {n c b8 gx : Nat} {uw ug : Option Addr} {m cw cg : Nat} {F LX FG LX' : List Int} {X X' : World} (h : Cs w W H u n c b8 gx uw ug m cw cg F LX FG X) (hm : Mo (some ⟨gx, 0, none⟩) X X') (hr : Row X' (w.heap.size + 1) 3 1 (.slice (some ⟨gx, 0, none⟩) n n) n LX') : Cs w W H u n c b8 gx uw ug m cw cg F LX' FG X' := by
  have ho := h.ox
  have h2 := h.v2.lt
  refine ⟨h.bel.trans (hm.bel (B := w.heap.size) (by omega) (fun a ha => by cases ha; show w.heap.size ≤ gx; omega)), h.v2.mo hm (fun a ha => by cases ha; show gx ≠ _; omega), h.v8.mo hm (fun a ha => by cases ha; show gx ≠ _; omega), h.rw.mo hm ?_, hr, h.rg.mo hm ?_, h.ow, h.ox⟩
  · intro b hb a ha
    cases ha
    have := h.ow b hb
    show gx ≠ b
    omega
  · intro b hb a ha
    cases ha
    have := (h.rg.lt b hb).1
    show gx ≠ b
    omega
theorem Cs.markG {w : World} {W H : Int} {u : Option Addr} {n c b8 gx : Nat} {uw ug : Option Addr} {m cw cg : Nat} {F LX FG FG' : List Int} {X X' : World} (h : Cs w W H u n c b8 gx uw ug m cw cg F LX FG X) (hb : Below (b8 + 1) X X') (hr : Row X' (b8 + 1) 46 2 (.slice ug m cg) m FG') : Cs w W H u n c b8 gx uw ug m cw cg F LX FG' X' := by
  have ho := h.ox
  refine ⟨h.bel.trans (hb.mono (by omega)), h.v2.below hb (by omega), h.v8.below hb (by omega), h.rw.kept' (fun b hbb => hb.block b (by have := h.ow b hbb; omega)), h.rx.kept' (fun b hbb => hb.block b (Nat.lt_of_le_of_lt (Nat.le_of_eq (show b = gx by simpa [Value.ownBlock] using hbb.symm)) (by omega))), hr, h.ow, h.ox⟩
set_option maxHeartbeats 8000000 in
set_option maxRecDepth 100000 in
theorem fnExactContour_core (W H Z : Int) (u : Option Addr) (p po n c : Nat) (L : List Int) (E : Int) (m : Nat) (F : List Int) (w : World) (hb : n ≤ 1048576) (hl : L.length = n) (hu : Its w u p po L) (hm : m ≤ 2500) (hFl : F.length = m * 2)
    (HM : Hid (∀ (g : Nat) (X : World), iblk X g 3 L → Calls Try.prog 16 #[fldV W H (some ⟨g, 0, none⟩) n n, .int .i64 Z] X fun e w' => (∃ v, e = .returned (.tuple #[v, .int .i64 E]) ∧ Row w' X.heap.size 46 2 v m F) ∧ Below X.heap.size X w'))
    (HP : Hid (∀ (g : Nat) (X : World), iblk X g 3 L → Calls Try.prog 15 #[fldV W H (some ⟨g, 0, none⟩) n n, .int .i64 Z] X fun e w' => (∃ v, e = .returned (.tuple #[v, .int .i64 E]) ∧ Row w' X.heap.size 46 2 v m F) ∧ Below X.heap.size X w')) :
    Calls Try.prog 6 #[fldV W H u n c, .int .i64 Z] w fun e w' => e = .returned (.bool true) ∧ Below w.heap.size w w' := by
  have HB0 := hide (ba (Below.refl w.heap.size w) (.cells #[.int .i64 W, .int .i64 H, .slice u n c] 49))
  have HV0 := hide (vb_new w 49 [.int .i64 W, .int .i64 H, .slice u n c] w.heap.size rfl)
  have t1 : decide ((1048576 : Int) - (n : Int) < 0) = false := decide_eq_false (by omega)
  have HZ := hide (fun X => fd_sz_in W H u n c 1048576 X (by omega) (by omega))
  have HT := hide (fun X (hX : Below w.heap.size w X) => fd_to W H u p po n c L X hl hb (hu.bel hX))
  have HQ := hide (fun (ua ub : Option Addr) (ca cb B B' : Nat) (X : World) (h1 : Row X B 46 2 (.slice ua m ca) m F) (h2 : Row X B' 46 2 (.slice ub m cb) m F) => pt_same ua ub (bo ua) 0 (bo ub) 0 m ca cb F X hFl (by omega) h1.pts h2.pts)
  have HE := hide (fun (g g' : Nat) (X : World) (h1 : Its X (some ⟨g, 0, none⟩) g 0 L) (h2 : Its X (some ⟨g', 0, none⟩) g' 0 L) => fd_same W H (some ⟨g, 0, none⟩) (some ⟨g', 0, none⟩) g 0 g' 0 n n n L X hl hb h1 h2)
  have HKX := hide (fun (gx : Nat) (X : World) (hr : Row X (w.heap.size + 1) 3 1 (.slice (some ⟨gx, 0, none⟩) n n) n L) => fd_markR W H (some ⟨gx, 0, none⟩) (w.heap.size + 1) n n L 1 X hb (by omega) (by omega) hr)
  have HKG := hide (fun (B : Nat) (v : Value) (X : World) (hr : Row X B 46 2 v m F) => pt_markR B m v F 1 X (by omega) (by omega) (by omega) hr)
  have HHG := hide (fun (ug : Option Addr) (cg B : Nat) (X : World) (hr : Row X B 46 2 (.slice ug m cg) m (marks 1 (m * 2))) => pt_held ug (bo ug) m cg 1 X (by omega) (by omega) (by omega) (fun h => ⟨(hr.pts h).1, (hr.pts h).2.2⟩))
  have HL := hide hl
  have s1 : (E != E) = false := by simp
  have t3 : decide ((1 : Int) + (n : Int) < 0) = false := decide_eq_false (by omega)
  have t4 : decide ((1 : Int) + (m : Int) * 2 < 0) = false := decide_eq_false (by omega)
  have t5 : ((1 : Int) + (m : Int) * 2 != 1 + (m : Int) * 2) = false := by simp
  unfold fldV at *
  clear hu hl hFl
  go_enter Try.func6, Try.ntmps6
  go_wp2_with fail
  refine (unhide HZ _).mono ?_
  rintro e W0 ⟨rfl, hb0⟩
  have v0 := (unhide HV0).bel hb0
  have k0 := v0.cell (m := 0) rfl
  have k1 := v0.cell (m := 1) rfl
  have k2 := v0.cell (m := 2) rfl
  have HV1 := hide v0
  have HB1 := hide (bc (unhide HB0) hb0)
  clear hb0 v0
  go_wp2_with fail
  refine (unhide HT _ (unhide HB1)).mono ?_
  rintro e W1 ⟨⟨g1, rfl, hg1, hk1⟩, hb1⟩
  have HK1 := hide hk1
  have HV2 := hide ((unhide HV1).bel hb1)
  have HB2 := hide (bc (unhide HB1) hb1)
  clear hb1 hk1 hg1 k0 k1 k2
  go_wp2_with fail
  refine (unhide HM _ _ (unhide HK1)).mono ?_
  rintro e W2 ⟨⟨vw, rfl, hrw⟩, hb2⟩
  obtain ⟨uw, cw, rfl, _⟩ := hrw.form
  have v3 := (unhide HV2).bel hb2
  have HV3 := hide v3
  have k0 := v3.cell (m := 0) rfl
  have k1 := v3.cell (m := 1) rfl
  have k2 := v3.cell (m := 2) rfl
  have HRW := hide (hrw.mono (show w.heap.size + 1 ≤ W1.heap.size from (unhide HV2).lt))
  have HOW : Hid (∀ b, (Value.slice uw m cw).ownBlock = some b → b < W2.heap.size) := hide (fun b h => (hrw.lt b h).2)
  have HB3 := hide (bc (unhide HB2) hb2)
  have hlt2 := v3.lt
  clear hb2 hrw v3
  go_wp2_with fail
  refine (unhide HT _ (unhide HB3)).mono ?_
  rintro e W4 ⟨⟨gx, rfl, hgx, hkx⟩, hb4⟩
  have hA : Below W4.heap.size W4 (W4.alloc (.cells #[.int .i64 W, .int .i64 H, .slice (some ⟨gx, 0, none⟩) n n] 25)) := ba (Below.refl _ _) _
  have HV5 := hide (((unhide HV3).bel hb4).bel hA)
  have HV8 := hide (vb_new W4 25 [.int .i64 W, .int .i64 H, .slice (some ⟨gx, 0, none⟩) n n] W4.heap.size rfl)
  have HRW' := hide (((unhide HRW).below hb4).below hA)
  have HKX' := hide (hkx.bel hA)
  have HB5 := hide (bc (bc (unhide HB3) hb4) hA)
  have HOX : Hid (w.heap.size < gx ∧ gx < W4.heap.size) := hide ⟨by omega, hkx.lt⟩
  have HOW' : Hid (∀ b, (Value.slice uw m cw).ownBlock = some b → b < gx) := hide (fun b h => Nat.lt_of_lt_of_le (unhide HOW b h) hgx)
  have HS5 : Hid (W4.heap.size < (W4.alloc (.cells #[.int .i64 W, .int .i64 H, .slice (some ⟨gx, 0, none⟩) n n] 25)).heap.size) := hide (by simp)
  clear hb4 hgx hkx hA k0 k1 k2 hlt2
  go_wp2_with fail
  generalize W4.alloc (.cells #[.int .i64 W, .int .i64 H, .slice (some ⟨gx, 0, none⟩) n n] 25) = W5 at *
  generalize W4.heap.size = b8 at *
  refine (unhide HP _ _ (unhide HKX')).mono ?_
  rintro e W6 ⟨⟨vg, rfl, hrg⟩, hb6⟩
  obtain ⟨ug, cg, rfl, _⟩ := hrg.form
  have HFS : Hid (Cs w W H u n c b8 gx uw ug m cw cg F L F W6) := hide
    ⟨bc (unhide HB5) hb6, (unhide HV5).bel hb6, (unhide HV8).bel hb6, (unhide HRW').below hb6, ((unhide HKX').bel hb6).row (by have := (unhide HOX).1; omega) (unhide HL) hb, hrg.mono (by have := unhide HS5; omega), unhide HOW', unhide HOX⟩
  clear hb6 hrg HV5 HV8 HRW' HKX' HB5 HOX HOW' HS5 HV0 HV1 HV2 HV3 HRW HB0 HB1 HB2 HB3 HK1 HOW
  go_wp2_with fail
  refine (unhide HQ _ _ _ _ _ _ _ (unhide HFS).rg (unhide HFS).rw).mono ?_
  rintro e W8 ⟨rfl, hb8⟩
  have HF8 := hide ((unhide HFS).next hb8)
  clear hb8 HFS
  have k0 := (unhide HF8).v2.cell (m := 0) rfl
  have k1 := (unhide HF8).v2.cell (m := 1) rfl
  have k2 := (unhide HF8).v2.cell (m := 2) rfl
  have j0 := (unhide HF8).v8.cell (m := 0) rfl
  have j1 := (unhide HF8).v8.cell (m := 1) rfl
  have j2 := (unhide HF8).v8.cell (m := 2) rfl
  go_upto_region 10 with fail
  go_cut [49] (fun s49 wx => s49 = .bool false ∧ Below W8.heap.size W8 wx)
  case first =>
    go_region_held3 (fun wx => wx.cell? ⟨w.heap.size, 0, none⟩ = some (.int .i64 W) ∧ wx.cell? ⟨w.heap.size, 1, none⟩ = some (.int .i64 H) ∧ wx.cell? ⟨w.heap.size, 2, none⟩ = some (.slice u n c) ∧ wx.cell? ⟨b8, 0, none⟩ = some (.int .i64 W) ∧ wx.cell? ⟨b8, 1, none⟩ = some (.int .i64 H) ∧ wx.cell? ⟨b8, 2, none⟩ = some (.slice (some ⟨gx, 0, none⟩) n n))
      (simp (maxDischargeDepth := 12) [go_sem, le1, lt1, *])
      (first
      | (go_at_call 22; with_reducible refine (unhide HT _ (by repeat (first | exact (unhide HF8).bel | refine Below.drew ?_))).mono ?_; rintro e w' ⟨⟨g8, rfl, hg8, hk8⟩, hb⟩; have HBx := hide (show Below W8.heap.size W8 w' from bc (by repeat (first | exact Below.refl _ _ | refine Below.drew ?_)) hb); have HK8 := hide hk8.its; have HK8' := hide ((unhide HF8).next (unhide HBx)).rx.it; have p0 := keep1 hb (b := w.heap.size) (o := 0) (v := .int .i64 W) (by simp (maxDischargeDepth := 12) [go_sem, le1, lt1, *]); have p1 := keep1 hb (b := w.heap.size) (o := 1) (v := .int .i64 H) (by simp (maxDischargeDepth := 12) [go_sem, le1, lt1, *]); have p2 := keep1 hb (b := w.heap.size) (o := 2) (v := .slice u n c) (by simp (maxDischargeDepth := 12) [go_sem, le1, lt1, *]); have p3 := keep1 hb (b := b8) (o := 0) (v := .int .i64 W) (by simp (maxDischargeDepth := 12) [go_sem, le1, lt1, *]); have p4 := keep1 hb (b := b8) (o := 1) (v := .int .i64 H) (by simp (maxDischargeDepth := 12) [go_sem, le1, lt1, *]); have p5 := keep1 hb (b := b8) (o := 2) (v := .slice (some ⟨gx, 0, none⟩) n n) (by simp (maxDischargeDepth := 12) [go_sem, le1, lt1, *]); clear hb hk8 hg8)
      | (go_at_call 24; with_reducible refine (unhide HE _ _ _ (unhide HK8') (unhide HK8)).mono ?_; rintro e w' ⟨rfl, hb⟩; have HBy := hide (show Below W8.heap.size W8 w' from bc (by repeat (first | exact unhide HBx | refine Below.drew ?_)) hb); have q0 := keep1 hb (b := w.heap.size) (o := 0) (v := .int .i64 W) (by simp (maxDischargeDepth := 12) [go_sem, le1, lt1, *]); have q1 := keep1 hb (b := w.heap.size) (o := 1) (v := .int .i64 H) (by simp (maxDischargeDepth := 12) [go_sem, le1, lt1, *]); have q2 := keep1 hb (b := w.heap.size) (o := 2) (v := .slice u n c) (by simp (maxDischargeDepth := 12) [go_sem, le1, lt1, *]); have q3 := keep1 hb (b := b8) (o := 0) (v := .int .i64 W) (by simp (maxDischargeDepth := 12) [go_sem, le1, lt1, *]); have q4 := keep1 hb (b := b8) (o := 1) (v := .int .i64 H) (by simp (maxDischargeDepth := 12) [go_sem, le1, lt1, *]); have q5 := keep1 hb (b := b8) (o := 2) (v := .slice (some ⟨gx, 0, none⟩) n n) (by simp (maxDischargeDepth := 12) [go_sem, le1, lt1, *]); clear hb))
    all_goals
      go_wp2_with fail
      go_meet
      case rel => exact ⟨rfl, (by repeat (first | exact unhide HBy | refine Below.drew ?_))⟩
  case rest =>
    obtain ⟨rfl, hw⟩ := hcut
    have HF9 := hide ((unhide HF8).next hw)
    clear hw k0 k1 k2 j0 j1 j2 HF8
    have j0 := (unhide HF9).v8.cell (m := 0) rfl
    have j1 := (unhide HF9).v8.cell (m := 1) rfl
    have j2 := (unhide HF9).v8.cell (m := 2) rfl
    go_wp2_with fail
    refine (unhide HKX _ _ (unhide HF9).rx).mono ?_
    rintro e Wa ⟨rfl, hro, hmo⟩
    have HFa := hide ((unhide HF9).markX hmo hro)
    clear hro hmo j0 j1 j2 HF9
    go_wp2_with fail
    refine (unhide HQ _ _ _ _ _ _ _ (unhide HFa).rg (unhide HFa).rw).mono ?_
    rintro e Wb ⟨rfl, hbb⟩
    have HFb := hide ((unhide HFa).next hbb)
    clear hbb HFa
    go_wp2_with fail
    refine (unhide HKG _ _ _ (unhide HFb).rg).mono ?_
    rintro e Wc ⟨rfl, hro, hmo, _⟩
    have HFc := hide ((unhide HFb).markG hmo hro)
    clear hro hmo HFb
    go_wp2_with fail
    refine (unhide HHG _ _ _ _ (unhide HFc).rg).mono ?_
    rintro e Wd ⟨rfl, hbd⟩
    have HFd := hide ((unhide HFc).next hbd.bel)
    clear hbd HFc
    have k0 := (unhide HFd).v2.cell (m := 0) rfl
    have k1 := (unhide HFd).v2.cell (m := 1) rfl
    have k2 := (unhide HFd).v2.cell (m := 2) rfl
    go_wp2_with fail
    refine (unhide HT _ (unhide HFd).bel).mono ?_
    rintro e We ⟨⟨gy, rfl, hgy, hky⟩, hbe⟩
    have HFe := hide ((unhide HFd).next hbe)
    have HKY := hide hky
    clear hbe hgy hky k0 k1 k2 HFd
    go_wp2_with fail
    refine (unhide HP _ _ (unhide HKY)).mono ?_
    rintro e Wf ⟨⟨vh, rfl, hrh⟩, hbf⟩
    obtain ⟨uh, ch, rfl, _⟩ := hrh.form
    have HFf := hide ((unhide HFe).next hbf)
    have HRH := hide hrh
    clear hbf hrh HFe
    go_wp2_with fail
    refine (unhide HQ _ _ _ _ _ _ _ (unhide HRH) (unhide HFf).rw).mono ?_
    rintro e Wg ⟨rfl, hbg⟩
    have HFg := hide ((unhide HFf).next hbg)
    clear hbg HFf
    go_wp2_with fail
    refine (unhide HHG _ _ _ _ (unhide HFg).rg).mono ?_
    rintro e Wh ⟨rfl, hbh⟩
    have HFh := hide ((unhide HFg).next hbh.bel)
    clear hbh HFg
    go_wp2_with fail
    go_ret
    exact ⟨rfl, (unhide HFh).bel⟩
theorem fnExactContour_walk (W H : Int) (u : Option Addr) (n c : Nat) (L : List Int) (Z : Int) (w : World) (hn : n ≤ 9223372036854775807) (hl : L.length = n)
    (hx : n ≠ 0 → ∃ p po, u = some ⟨p, po, none⟩ ∧ p < w.heap.size ∧ IntsAt w p po L) (wR : (Lit.int IntKind.i64 Z).wf = true) :
    Calls Try.prog 6 #[fldV W H u n c, .int .i64 Z] w fun e w' => e = .returned (.bool true) ∧ Below w.heap.size w w' := by
  obtain ⟨p, po, hu⟩ := its_of hl hx
  by_cases hb : n ≤ 1048576
  · by_cases hO : FOk W H L
    · by_cases hz : 0 ≤ Z ∧ Z ≤ 23
      · obtain ⟨a, b, rfl, rfl, ha1, ha2, hb1, hb2, hlen⟩ := hO.nat
        have hnn : n = a * b := by rw [← hl]; exact hlen
        obtain ⟨E, F, m, hm, hF, huq⟩ := Otl.ex ha2 hb2 L Z
        refine fnExactContour_core _ _ _ u p po n c L E m F w hb hl hu hm hF (hide fun g X hX => ?_) (hide fun g X hX => ?_)
        · refine (ctM_good a b n n g 0 L Z X hO hnn hz ⟨hX.lt, hX.ints, hl, Nat.le_refl _, hn⟩).mono ?_
          rintro e w' ⟨⟨v, l, L', E', he, hr, ho⟩, hb'⟩
          obtain ⟨rfl, rfl⟩ := huq _ _ ho
          obtain rfl : l = m := by have := hr.len; omega
          exact ⟨⟨v, he, hr⟩, hb'⟩
        · refine (ctP_good a b n n g 0 L Z X hO hnn hz ⟨hX.lt, hX.ints, hl, Nat.le_refl _, hn⟩).mono ?_
          rintro e w' ⟨⟨v, l, L', E', he, hr, ho⟩, hb'⟩
          obtain ⟨rfl, rfl⟩ := huq _ _ ho
          obtain rfl : l = m := by have := hr.len; omega
          exact ⟨⟨v, he, hr⟩, hb'⟩
      · exact fnExactContour_core _ _ _ u p po n c L 5 0 [] w hb hl hu (by omega) rfl (hide fun g X hX => ctM_rng W H (some ⟨g, 0, none⟩) g 0 n n L Z X hO hz hl hn hX.its) (hide fun g X hX => ctP_rng W H (some ⟨g, 0, none⟩) g 0 n n L Z X hO hz hl hn hX.its)
    · exact fnExactContour_core _ _ _ u p po n c L 1 0 [] w hb hl hu (by omega) rfl (hide fun g X hX => ctM_bad W H (some ⟨g, 0, none⟩) g 0 n n L Z X hO hl hn hX.its) (hide fun g X hX => ctP_bad W H (some ⟨g, 0, none⟩) g 0 n n L Z X hO hl hn hX.its)
  · have HB0 := hide (ba (Below.refl w.heap.size w) (.cells #[.int .i64 W, .int .i64 H, .slice u n c] 49))
    have HZ := hide (fun X => fd_sz_out W H u n c 1048576 X (by omega) (by omega) (by omega) hn)
    unfold fldV at *
    clear hx hu hl
    go_enter Try.func6, Try.ntmps6
    go_wp2_with fail
    refine (unhide HZ _).mono ?_
    rintro e W0 ⟨rfl, hb0⟩
    have HB1 := hide (bc (unhide HB0) hb0)
    clear hb0
    go_wp2_with fail
    go_ret
    exact ⟨rfl, unhide HB1⟩
theorem fnExactContour_own : ownKnob Try.prog.godebug = none := by kernel_rfl
theorem fnExactContour_laidOut : laidOutB Try.prog = true := by kernel_rfl
theorem cells49 : Try.prog.cellsOf 49 = 3 := by kernel_rfl

set_option maxRecDepth 100000 in
theorem fnExactContour_lifted (os : Os) (started : os.Started) (H : Type) (enc : TypeId × Value → H) :
    ReturnsInHanded {} Try.checked os 6 .any (Rows.fnExactContourSpec.pre6 enc Try.prog Try.f6 Rows.fnExactContourRow.domain false) (Rows.fnExactContourSpec.post enc Try.prog Try.f6 false true false false) := by
  refine returnsInHanded_of_change (C := Try.checked) fnExactContour_own started (by kernel_rfl) Try.func6
    (ChangeSpec.witness6 (enc := enc) (C := Try.checked) false ⟨#[], #[.agg #[.int .i64 0, .int .i64 0, .slice none 0 0], .int .i64 0], []⟩ 8 (by kernel_rfl) (by kernel_rfl) (by kernel_rfl) (by kernel_rfl)) ?_
  intro W base args ds gs before hval0 hW hcnd _
  have hval : ∀ (j : Nat) t v, Try.f6.params[j]? = some t → args[j]? = some v → Value.okWide Try.prog W .any base t v := hval0
  have hW' := hW
  obtain ⟨p, q, hA0, hV, rfl, hfz, hnd⟩ := hW
  have hA : DataW.TrodAll enc Try.prog W 0 (fun _ => true) true Try.f6.params.toList args.toList ds p := hA0
  rw [Try.params6] at hA hval
  obtain ⟨v0, vs0, d0, ds0, p0, q0, hargs, rfl, rfl, h0, r0⟩ := trodAll_cons hA
  obtain ⟨v1, vs1, d1, ds1, p1, q1, rfl, rfl, rfl, h1, r1⟩ := trodAll_cons r0
  obtain ⟨rfl, rfl, rfl⟩ := trodAll_nil r1
  obtain rfl : args = #[v0, v1] := by cases args; simp_all
  obtain ⟨rfl, rfl⟩ := trodVars_none hV
  have k0 := h0
  have lt0 : ∀ x ∈ p0, x.block < W.heap.size := by obtain ⟨m, hm⟩ := k0; exact DataW.trod_lt m _ _ _ hm
  obtain ⟨c0, e0, s0, y0, x0, z0, m0, rfl, rfl, rfl, hy0, hx0, hz0⟩ := open_agg3 Try.underlying49 (by kernel_rfl) cells49 (hval 0 49 v0 rfl rfl) h0
  obtain ⟨n0, en0, _, wn0⟩ := DataW.trod_int Try.underlying3 hy0
  obtain ⟨o0, eo0, _, wo0⟩ := DataW.trod_int Try.underlying3 hx0
  simp at en0 eo0
  subst en0 eo0
  obtain ⟨a0, len0, cap0, L0, hcs0, b0, l0, w0⟩ := open_irow Try.underlying23 Try.underlying3 (by kernel_rfl) hz0
  simp at hcs0
  subst hcs0
  obtain ⟨a1, rfl, rfl, rfl, w1⟩ := open_int Try.underlying3 (hval 1 3 v1 rfl rfl) h1
  clear hA0 hval0
  refine (fnExactContour_walk n0 o0 a0 len0 cap0 L0 a1 W b0 l0 w0 w1).mono fun e W' ⟨he, bel⟩ => ?_
  subst he
  exact ⟨_, rfl, _, _, _, [], _, [], hW', trodAll_mk1 (shut_bool Try.underlying4 _), (trodAll_cons_mk (Below.trod fnExactContour_laidOut (by kernel_rfl) (of_decide_eq_true (by kernel_rfl)) k0 bel lt0) (trodAll_cons_mk (shut_int Try.underlying3 w1) trodAll_mk0)), rfl, bel.frame _, fun h => by cases h⟩

theorem fnExactContour_over : Rows.fnExactContourRow.holds Try.pinned (OpenSpec.ofChange Rows.fnExactContourSpec) :=
  OpenClaim.holds_of_wide 6 Try.f6 rfl rfl rfl rfl rfl rfl rfl ⟨rfl, rfl, rfl, rfl, rfl⟩ rfl rfl rfl rfl rfl (by kernel_rfl) Try.func6 (by kernel_rfl)
    (of_decide_eq_true (by kernel_rfl)) (by unfold Func.isWrapper; first | (rw [if_pos (by decide +kernel)]; kernel_rfl) | (rw [if_neg (by decide +kernel)]; exact ⟨rfl, rfl⟩))
    (fun os started H enc _ => fnExactContour_lifted os started H enc)

/-- The statement, as it was given. -/
theorem fnExactContour_holds : Rows.FnExactContourSaid := fnExactContour_over
#print axioms fnExactContour_holds
end Go.Proofs.Ytjhldjojkaphkaa
