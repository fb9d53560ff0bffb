/-
  The program's Floor answers as the model at every field and tool, right or not; it changes none; its tops lie in memory of their own.
-/
import Derived.Test.YtbjljofgpbecbaaByt
import Derived.Test.YtbjljofgpbecbaaFlmB
import Derived.Test.YtbjljofgpbecbaaMkRows
import Derived.Test.YtbjljofgpbecbaaFdLaw
namespace Go.Proofs.Ytbjljofgpbecbaa
open Go.ChangeShapes Go.WideShapes Go.ChangeAt Go.RowKit Go.Joins
set_option linter.unusedVariables false
set_option linter.unusedSimpArgs false

/-- what the law has in hand -/
structure Fs (w : World) (W H Wr Hr : Int) (u : Option Addr) (n c b6 b8 b9 gx : Nat) (uw ug : Option Addr) (m cw cg : Nat) (F LX FG : List Int) (X : World) : Prop where
  bel : Below w.heap.size w X
  v2 : vb X w.heap.size 42 [.int .i64 W, .int .i64 H, .slice u n c]
  v6 : vb X b6 25 [.int .i64 Wr, .int .i64 Hr, .slice uw m cw]
  v8 : vb X b8 25 [.int .i64 W, .int .i64 H, .slice (some ⟨gx, 0, none⟩) n n]
  v9 : vb X b9 25 [.int .i64 Wr, .int .i64 Hr, .slice ug m cg]
  rw : Row X (w.heap.size + 1) 3 1 (.slice uw m cw) m F
  rx : Row X (w.heap.size + 1) 3 1 (.slice (some ⟨gx, 0, none⟩) n n) n LX
  rg : Row X (w.heap.size + 1) 3 1 (.slice ug m cg) m FG
/-- which blocks come behind which -/
structure Fo (w : World) (b6 b8 b9 gx : Nat) (uw ug : Option Addr) : Prop where
  a : w.heap.size < b6
  b : ∀ a, uw = some a → a.block < b6
  c : b6 < gx
  d : gx < b8
  e : ∀ a, ug = some a → b8 < a.block ∧ a.block < b9
  f : b8 < b9
theorem Fs.next {w : World} {W H Wr Hr : Int} {u : Option Addr} {n c b6 b8 b9 gx : Nat} {uw ug : Option Addr} {m cw cg : Nat} {F LX FG : List Int} {X X' : World} (h : Fs w W H Wr Hr u n c b6 b8 b9 gx uw ug m cw cg F LX FG X) (hb : Below X.heap.size X X') : Fs w W H Wr Hr u n c b6 b8 b9 gx uw ug m cw cg F LX FG X' :=
  ⟨bc h.bel hb, h.v2.bel hb, h.v6.bel hb, h.v8.bel hb, h.v9.bel hb, h.rw.below hb, h.rx.below hb, h.rg.below hb⟩
theorem own_u {v : Value} {u : Option Addr} {n c b : Nat} (h : (Value.slice u n c).ownBlock = some b) : ∃ a, u = some a ∧ a.block = b := by
  cases u with
  | none => cases h
  | some a => exact ⟨a, rfl, by simpa [Value.ownBlock] using h⟩
theorem Fs.markX {w : World} {W H Wr Hr : Int} {u : Option Addr} {n c b6 b8 b9 gx : Nat} {uw ug : Option Addr} {m cw cg : Nat} {F LX FG LX' : List Int} {X X' : World} (h : Fs w W H Wr Hr u n c b6 b8 b9 gx uw ug m cw cg F LX FG X) (o : Fo w b6 b8 b9 gx uw ug) (hm : Mo (some ⟨gx, 0, none⟩) X X') (hr : Row X' (w.heap.size + 1) 3 1 (.slice (some ⟨gx, 0, none⟩) n n) n LX') : Fs w W H Wr Hr u n c b6 b8 b9 gx uw ug m cw cg F LX' FG X' := by
  have oa := o.a; have oc := o.c; have od := o.d
  have hs := h.v2.lt
  have h9 := h.v9.lt
  refine ⟨h.bel.trans (hm.bel (B := w.heap.size) (by omega) (fun a ha => by cases ha; show w.heap.size ≤ gx; omega)), h.v2.mo hm (fun a ha => by cases ha; show gx ≠ _; omega), h.v6.mo hm (fun a ha => by cases ha; show gx ≠ _; omega), h.v8.mo hm (fun a ha => by cases ha; show gx ≠ _; omega), h.v9.mo hm ?_, h.rw.mo hm ?_, hr, h.rg.mo hm ?_⟩
  · intro a ha
    cases ha
    show gx ≠ b9
    have := o.e
    cases hu : ug with
    | none => have := o.f; omega
    | some a => have := o.e a hu; omega
  · intro b hb a ha
    cases ha
    obtain ⟨a', e1, e2⟩ := own_u (v := .bool true) hb
    have := o.b a' e1
    show gx ≠ b
    omega
  · intro b hb a ha
    cases ha
    obtain ⟨a', e1, e2⟩ := own_u (v := .bool true) hb
    have := o.e a' e1
    show gx ≠ b
    omega
theorem Fs.markG {w : World} {W H Wr Hr : Int} {u : Option Addr} {n c b6 b8 b9 gx : Nat} {uw ug : Option Addr} {m cw cg : Nat} {F LX FG FG' : List Int} {X X' : World} (h : Fs w W H Wr Hr u n c b6 b8 b9 gx uw ug m cw cg F LX FG X) (o : Fo w b6 b8 b9 gx uw ug) (hm : Mo ug X X') (hr : Row X' (w.heap.size + 1) 3 1 (.slice ug m cg) m FG') : Fs w W H Wr Hr u n c b6 b8 b9 gx uw ug m cw cg F LX FG' X' := by
  have oa := o.a; have oc := o.c; have od := o.d
  have hs := h.v2.lt
  refine ⟨h.bel.trans (hm.bel (B := w.heap.size) (by omega) (fun a ha => by have := o.e a ha; omega)), h.v2.mo hm (fun a ha => by have := o.e a ha; omega), h.v6.mo hm (fun a ha => by have := o.e a ha; omega), h.v8.mo hm (fun a ha => by have := o.e a ha; omega), h.v9.mo hm (fun a ha => by have := o.e a ha; omega), h.rw.mo hm ?_, h.rx.mo hm ?_, hr⟩
  · intro b hb a ha
    obtain ⟨a', e1, e2⟩ := own_u (v := .bool true) hb
    have := o.b a' e1
    have := o.e a ha
    omega
  · intro b hb a ha
    obtain ⟨a', e1, e2⟩ := own_u (v := .bool true) hb
    cases e1
    have := o.e a ha
    show a.block ≠ b
    simp at e2
    omega
set_option maxHeartbeats 8000000 in
set_option maxRecDepth 100000 in
theorem fnExactFloor_core (W H R : Int) (u : Option Addr) (p po n c : Nat) (L : List Int) (Wr Hr E : Int) (m : Nat) (F : List Int) (w : World) (hb : n ≤ 1048576) (hl : L.length = n) (hu : Its w u p po L) (hm : m ≤ 576) (hFl : F.length = m)
    (HM : Hid (∀ (g : Nat) (X : World), iblk X g 3 L → Calls Try.prog 16 #[fldV W H (some ⟨g, 0, none⟩) n n, .int .i64 R] X fun e w' => (∃ uv cv, e = .returned (.tuple #[fldV Wr Hr uv m cv, .int .i64 E]) ∧ Row w' X.heap.size 3 1 (.slice uv m cv) m F) ∧ Below X.heap.size X w'))
    (HP : Hid (∀ (g : Nat) (X : World), iblk X g 3 L → Calls Try.prog 15 #[fldV W H (some ⟨g, 0, none⟩) n n, .int .i64 R] X fun e w' => (∃ uv cv, e = .returned (.tuple #[fldV Wr Hr uv m cv, .int .i64 E]) ∧ Row w' X.heap.size 3 1 (.slice uv m cv) m F) ∧ Below X.heap.size X w')) :
    Calls Try.prog 7 #[fldV W H u n c, .int .i64 R] w fun e w' => e = .returned (.bool true) ∧ Below w.heap.size w w' := by
  have HB0 := hide (ba (Below.refl w.heap.size w) (.cells #[.int .i64 W, .int .i64 H, .slice u n c] 42))
  have HV0 := hide (vb_new w 42 [.int .i64 W, .int .i64 H, .slice u n c] w.heap.size rfl)
  have t1 : decide ((1048576 : Int) - (n : Int) < 0) = false := decide_eq_false (by omega)
  have HZ := hide (fun X => fd_sz_in W H u n c 1048576 X (by omega) (by omega))
  have HT := hide (fun X (hX : Below w.heap.size w X) => fd_to W H u p po n c L X hl hb (hu.bel hX))
  have HQ := hide (fun (ua ub : Option Addr) (ca cb : Nat) (X : World) (h1 : Its X ua (bo ua) 0 F) (h2 : Its X ub (bo ub) 0 F) => fd_same Wr Hr ua ub (bo ua) 0 (bo ub) 0 m ca cb F X hFl (by omega) h1 h2)
  have HE := hide (fun (g g' : Nat) (X : World) (h1 : Its X (some ⟨g, 0, none⟩) g 0 L) (h2 : Its X (some ⟨g', 0, none⟩) g' 0 L) => fd_same W H (some ⟨g, 0, none⟩) (some ⟨g', 0, none⟩) g 0 g' 0 n n n L X hl hb h1 h2)
  have HKX := hide (fun (gx : Nat) (X : World) (hr : Row X (w.heap.size + 1) 3 1 (.slice (some ⟨gx, 0, none⟩) n n) n L) => fd_markR W H (some ⟨gx, 0, none⟩) (w.heap.size + 1) n n L 1 X hb (by omega) (by omega) hr)
  have HKG := hide (fun (ug : Option Addr) (cg : Nat) (X : World) (hr : Row X (w.heap.size + 1) 3 1 (.slice ug m cg) m F) => fd_markR Wr Hr ug (w.heap.size + 1) m cg F 1 X (by omega) (by omega) (by omega) hr)
  have HHG := hide (fun (ug : Option Addr) (cg : Nat) (X : World) (hr : Its X ug (bo ug) 0 (marks 1 m)) => fd_held Wr Hr ug (bo ug) 0 m cg 1 X (by omega) (by omega) (by omega) hr)
  have HL := hide hl
  have s1 : (E != E) = false := by simp
  have t3 : decide ((1 : Int) + (n : Int) < 0) = false := decide_eq_false (by omega)
  have t4 : decide ((1 : Int) + (m : Int) < 0) = false := decide_eq_false (by omega)
  have t5 : ((1 : Int) + (m : Int) != 1 + (m : Int)) = false := by simp
  unfold fldV at *
  clear hu hl hFl
  go_enter Try.func7, Try.ntmps7
  go_wp2_with fail
  refine (unhide HZ _).mono ?_
  rintro e W0 ⟨rfl, hb0⟩
  have v0 := (unhide HV0).bel hb0
  have k0 := v0.cell (m := 0) rfl
  have k1 := v0.cell (m := 1) rfl
  have k2 := v0.cell (m := 2) rfl
  have HV1 := hide v0
  have HB1 := hide (bc (unhide HB0) hb0)
  clear hb0 v0
  go_wp2_with fail
  refine (unhide HT _ (unhide HB1)).mono ?_
  rintro e W1 ⟨⟨g1, rfl, hg1, hk1⟩, hb1⟩
  have HK1 := hide hk1
  have HV2 := hide ((unhide HV1).bel hb1)
  have HB2 := hide (bc (unhide HB1) hb1)
  clear hb1 hk1 hg1 k0 k1 k2
  go_wp2_with fail
  refine (unhide HM _ _ (unhide HK1)).mono ?_
  rintro e W2 ⟨⟨uw, cw, rfl, hrw⟩, hb2⟩
  have hA : Below W2.heap.size W2 (W2.alloc (.cells #[.int .i64 Wr, .int .i64 Hr, .slice uw m cw] 25)) := ba (Below.refl _ _) _
  have v3 := ((unhide HV2).bel hb2).bel hA
  have HV3 := hide v3
  have k0 := v3.cell (m := 0) rfl
  have k1 := v3.cell (m := 1) rfl
  have k2 := v3.cell (m := 2) rfl
  have HV6 := hide (vb_new W2 25 [.int .i64 Wr, .int .i64 Hr, .slice uw m cw] W2.heap.size rfl)
  have HRW := hide ((hrw.below hA).mono (show w.heap.size + 1 ≤ W1.heap.size from (unhide HV2).lt))
  have HB3 := hide (bc (bc (unhide HB2) hb2) hA)
  have HO1 : Hid (w.heap.size < W2.heap.size ∧ ∀ a, uw = some a → a.block < W2.heap.size) := hide ⟨((unhide HV2).bel hb2).lt, fun a ha => by
    have := (World.ownsRow.lt hrw a.block (by rw [ha]; rfl)).2
    exact this⟩
  clear hb2 hrw v3 hA
  go_wp2_with fail
  generalize W2.alloc (.cells #[.int .i64 Wr, .int .i64 Hr, .slice uw m cw] 25) = W3 at *
  generalize W2.heap.size = b6 at *
  refine (unhide HT _ (unhide HB3)).mono ?_
  rintro e W4 ⟨⟨gx, rfl, hgx, hkx⟩, hb4⟩
  have hA : Below W4.heap.size W4 (W4.alloc (.cells #[.int .i64 W, .int .i64 H, .slice (some ⟨gx, 0, none⟩) n n] 25)) := ba (Below.refl _ _) _
  have HV5 := hide (((unhide HV3).bel hb4).bel hA)
  have HV6' := hide (((unhide HV6).bel hb4).bel hA)
  have HV8 := hide (vb_new W4 25 [.int .i64 W, .int .i64 H, .slice (some ⟨gx, 0, none⟩) n n] W4.heap.size rfl)
  have HRW' := hide (((unhide HRW).below hb4).below hA)
  have HKX' := hide (hkx.bel hA)
  have HB5 := hide (bc (bc (unhide HB3) hb4) hA)
  have HO2 : Hid (b6 < gx ∧ gx < W4.heap.size) := hide ⟨Nat.lt_of_lt_of_le (unhide HV6).lt hgx, hkx.lt⟩
  have HS5 : Hid (W4.heap.size < (W4.alloc (.cells #[.int .i64 W, .int .i64 H, .slice (some ⟨gx, 0, none⟩) n n] 25)).heap.size) := hide (by simp)
  clear hb4 hgx hkx hA k0 k1 k2
  go_wp2_with fail
  generalize W4.alloc (.cells #[.int .i64 W, .int .i64 H, .slice (some ⟨gx, 0, none⟩) n n] 25) = W5 at *
  generalize W4.heap.size = b8 at *
  refine (unhide HP _ _ (unhide HKX')).mono ?_
  rintro e W6 ⟨⟨ug, cg, rfl, hrg⟩, hb6⟩
  have hA : Below W6.heap.size W6 (W6.alloc (.cells #[.int .i64 Wr, .int .i64 Hr, .slice ug m cg] 25)) := ba (Below.refl _ _) _
  have hbA : Below W5.heap.size W5 (W6.alloc (.cells #[.int .i64 Wr, .int .i64 Hr, .slice ug m cg] 25)) := bc hb6 hA
  have HFS : Hid (Fs w W H Wr Hr u n c b6 b8 W6.heap.size gx uw ug m cw cg F L F (W6.alloc (.cells #[.int .i64 Wr, .int .i64 Hr, .slice ug m cg] 25))) := hide
    ⟨bc (unhide HB5) hbA, (unhide HV5).bel hbA, (unhide HV6').bel hbA, (unhide HV8).bel hbA, vb_new W6 25 _ _ rfl, (unhide HRW').below hbA, ((unhide HKX').bel hbA).row (by have := (unhide HO1).1; have := (unhide HO2).1; omega) (unhide HL) hb, (hrg.below hA).mono (by have := (unhide HO1).1; have := (unhide HO2).1; have := (unhide HO2).2; have := unhide HS5; omega)⟩
  have HFO : Hid (Fo w b6 b8 W6.heap.size gx uw ug) := hide
    ⟨(unhide HO1).1, (unhide HO1).2, (unhide HO2).1, (unhide HO2).2, fun a ha => by
      have := World.ownsRow.lt hrg a.block (by rw [ha]; rfl)
      have h5 := unhide HS5
      exact ⟨by omega, this.2⟩, by have := unhide HS5; have := hb6.size; omega⟩
  clear hb6 hA hbA hrg HV5 HV6' HV8 HRW' HKX' HB5 HO1 HO2 HS5 HV0 HV1 HV2 HV3 HV6 HRW HB0 HB1 HB2 HB3 HK1
  have v9 := (unhide HFS).v9
  have j0 := v9.cell (m := 0) rfl
  have j1 := v9.cell (m := 1) rfl
  have j2 := v9.cell (m := 2) rfl
  have v6 := (unhide HFS).v6
  have i0 := v6.cell (m := 0) rfl
  have i1 := v6.cell (m := 1) rfl
  have i2 := v6.cell (m := 2) rfl
  clear v9 v6
  go_wp2_with fail
  generalize W6.alloc (.cells #[.int .i64 Wr, .int .i64 Hr, .slice ug m cg] 25) = W7 at *
  generalize W6.heap.size = b9 at *
  refine (unhide HQ _ _ _ _ _ (unhide HFS).rg.it (unhide HFS).rw.it).mono ?_
  rintro e W8 ⟨rfl, hb8⟩
  have HF8 := hide ((unhide HFS).next hb8)
  clear hb8 j0 j1 j2 i0 i1 i2 HFS
  have k0 := (unhide HF8).v2.cell (m := 0) rfl
  have k1 := (unhide HF8).v2.cell (m := 1) rfl
  have k2 := (unhide HF8).v2.cell (m := 2) rfl
  have j0 := (unhide HF8).v8.cell (m := 0) rfl
  have j1 := (unhide HF8).v8.cell (m := 1) rfl
  have j2 := (unhide HF8).v8.cell (m := 2) rfl
  go_upto_region 10 with fail
  go_cut [49] (fun s49 wx => s49 = .bool false ∧ Below W8.heap.size W8 wx)
  case first =>
    go_region_held3 (fun wx => wx.cell? ⟨w.heap.size, 0, none⟩ = some (.int .i64 W) ∧ wx.cell? ⟨w.heap.size, 1, none⟩ = some (.int .i64 H) ∧ wx.cell? ⟨w.heap.size, 2, none⟩ = some (.slice u n c) ∧ wx.cell? ⟨b8, 0, none⟩ = some (.int .i64 W) ∧ wx.cell? ⟨b8, 1, none⟩ = some (.int .i64 H) ∧ wx.cell? ⟨b8, 2, none⟩ = some (.slice (some ⟨gx, 0, none⟩) n n))
      (simp (maxDischargeDepth := 12) [go_sem, le1, lt1, *])
      (first
      | (go_at_call 21; with_reducible refine (unhide HT _ (by repeat (first | exact (unhide HF8).bel | refine Below.drew ?_))).mono ?_; rintro e w' ⟨⟨g8, rfl, hg8, hk8⟩, hb⟩; have HBx := hide (show Below W8.heap.size W8 w' from bc (by repeat (first | exact Below.refl _ _ | refine Below.drew ?_)) hb); have HK8 := hide hk8.its; have HK8' := hide ((unhide HF8).next (unhide HBx)).rx.it; have p0 := keep1 hb (b := w.heap.size) (o := 0) (v := .int .i64 W) (by simp (maxDischargeDepth := 12) [go_sem, le1, lt1, *]); have p1 := keep1 hb (b := w.heap.size) (o := 1) (v := .int .i64 H) (by simp (maxDischargeDepth := 12) [go_sem, le1, lt1, *]); have p2 := keep1 hb (b := w.heap.size) (o := 2) (v := .slice u n c) (by simp (maxDischargeDepth := 12) [go_sem, le1, lt1, *]); have p3 := keep1 hb (b := b8) (o := 0) (v := .int .i64 W) (by simp (maxDischargeDepth := 12) [go_sem, le1, lt1, *]); have p4 := keep1 hb (b := b8) (o := 1) (v := .int .i64 H) (by simp (maxDischargeDepth := 12) [go_sem, le1, lt1, *]); have p5 := keep1 hb (b := b8) (o := 2) (v := .slice (some ⟨gx, 0, none⟩) n n) (by simp (maxDischargeDepth := 12) [go_sem, le1, lt1, *]); clear hb hk8 hg8)
      | (go_at_call 23; with_reducible refine (unhide HE _ _ _ (unhide HK8') (unhide HK8)).mono ?_; rintro e w' ⟨rfl, hb⟩; have HBy := hide (show Below W8.heap.size W8 w' from bc (by repeat (first | exact unhide HBx | refine Below.drew ?_)) hb); have q0 := keep1 hb (b := w.heap.size) (o := 0) (v := .int .i64 W) (by simp (maxDischargeDepth := 12) [go_sem, le1, lt1, *]); have q1 := keep1 hb (b := w.heap.size) (o := 1) (v := .int .i64 H) (by simp (maxDischargeDepth := 12) [go_sem, le1, lt1, *]); have q2 := keep1 hb (b := w.heap.size) (o := 2) (v := .slice u n c) (by simp (maxDischargeDepth := 12) [go_sem, le1, lt1, *]); have q3 := keep1 hb (b := b8) (o := 0) (v := .int .i64 W) (by simp (maxDischargeDepth := 12) [go_sem, le1, lt1, *]); have q4 := keep1 hb (b := b8) (o := 1) (v := .int .i64 H) (by simp (maxDischargeDepth := 12) [go_sem, le1, lt1, *]); have q5 := keep1 hb (b := b8) (o := 2) (v := .slice (some ⟨gx, 0, none⟩) n n) (by simp (maxDischargeDepth := 12) [go_sem, le1, lt1, *]); clear hb))
    all_goals
      go_wp2_with fail
      go_meet
      case rel => exact ⟨rfl, (by repeat (first | exact unhide HBy | refine Below.drew ?_))⟩
  case rest =>
    obtain ⟨rfl, hw⟩ := hcut
    have HF9 := hide ((unhide HF8).next hw)
    clear hw k0 k1 k2 j0 j1 j2 HF8
    have j0 := (unhide HF9).v8.cell (m := 0) rfl
    have j1 := (unhide HF9).v8.cell (m := 1) rfl
    have j2 := (unhide HF9).v8.cell (m := 2) rfl
    go_wp2_with fail
    refine (unhide HKX _ _ (unhide HF9).rx).mono ?_
    rintro e Wa ⟨rfl, hro, hmo⟩
    have HFa := hide ((unhide HF9).markX (unhide HFO) hmo hro)
    clear hro hmo j0 j1 j2 HF9
    have j0 := (unhide HFa).v9.cell (m := 0) rfl
    have j1 := (unhide HFa).v9.cell (m := 1) rfl
    have j2 := (unhide HFa).v9.cell (m := 2) rfl
    have i0 := (unhide HFa).v6.cell (m := 0) rfl
    have i1 := (unhide HFa).v6.cell (m := 1) rfl
    have i2 := (unhide HFa).v6.cell (m := 2) rfl
    go_wp2_with fail
    refine (unhide HQ _ _ _ _ _ (unhide HFa).rg.it (unhide HFa).rw.it).mono ?_
    rintro e Wb ⟨rfl, hbb⟩
    have HFb := hide ((unhide HFa).next hbb)
    clear hbb j0 j1 j2 i0 i1 i2 HFa
    have j0 := (unhide HFb).v9.cell (m := 0) rfl
    have j1 := (unhide HFb).v9.cell (m := 1) rfl
    have j2 := (unhide HFb).v9.cell (m := 2) rfl
    go_wp2_with fail
    refine (unhide HKG _ _ _ (unhide HFb).rg).mono ?_
    rintro e Wc ⟨rfl, hro, hmo⟩
    have HFc := hide ((unhide HFb).markG (unhide HFO) hmo hro)
    clear hro hmo j0 j1 j2 HFb
    have j0 := (unhide HFc).v9.cell (m := 0) rfl
    have j1 := (unhide HFc).v9.cell (m := 1) rfl
    have j2 := (unhide HFc).v9.cell (m := 2) rfl
    go_wp2_with fail
    refine (unhide HHG _ _ _ (unhide HFc).rg.it).mono ?_
    rintro e Wd ⟨rfl, hbd⟩
    have HFd := hide ((unhide HFc).next hbd)
    clear hbd j0 j1 j2 HFc
    have k0 := (unhide HFd).v2.cell (m := 0) rfl
    have k1 := (unhide HFd).v2.cell (m := 1) rfl
    have k2 := (unhide HFd).v2.cell (m := 2) rfl
    go_wp2_with fail
    refine (unhide HT _ (unhide HFd).bel).mono ?_
    rintro e We ⟨⟨gy, rfl, hgy, hky⟩, hbe⟩
    have HFe := hide ((unhide HFd).next hbe)
    have HKY := hide hky
    clear hbe hgy hky k0 k1 k2 HFd
    go_wp2_with fail
    refine (unhide HP _ _ (unhide HKY)).mono ?_
    rintro e Wf ⟨⟨uh, ch, rfl, hrh⟩, hbf⟩
    have hA : Below Wf.heap.size Wf (Wf.alloc (.cells #[.int .i64 Wr, .int .i64 Hr, .slice uh m ch] 25)) := ba (Below.refl _ _) _
    have HFf := hide (((unhide HFe).next hbf).next hA)
    have HRH := hide (hrh.below hA)
    have v14 := vb_new Wf 25 [.int .i64 Wr, .int .i64 Hr, .slice uh m ch] Wf.heap.size rfl
    have j0 := v14.cell (m := 0) rfl
    have j1 := v14.cell (m := 1) rfl
    have j2 := v14.cell (m := 2) rfl
    clear hbf hrh hA v14 HFe
    have i0 := (unhide HFf).v6.cell (m := 0) rfl
    have i1 := (unhide HFf).v6.cell (m := 1) rfl
    have i2 := (unhide HFf).v6.cell (m := 2) rfl
    go_wp2_with fail
    refine (unhide HQ _ _ _ _ _ (unhide HRH).it (unhide HFf).rw.it).mono ?_
    rintro e Wg ⟨rfl, hbg⟩
    have HFg := hide ((unhide HFf).next hbg)
    clear hbg j0 j1 j2 i0 i1 i2 HFf
    have j0 := (unhide HFg).v9.cell (m := 0) rfl
    have j1 := (unhide HFg).v9.cell (m := 1) rfl
    have j2 := (unhide HFg).v9.cell (m := 2) rfl
    go_wp2_with fail
    refine (unhide HHG _ _ _ (unhide HFg).rg.it).mono ?_
    rintro e Wh ⟨rfl, hbh⟩
    have HFh := hide ((unhide HFg).next hbh)
    clear hbh j0 j1 j2 HFg
    go_wp2_with fail
    go_ret
    exact ⟨rfl, (unhide HFh).bel⟩
theorem nil_row (w : World) (B : Nat) : Row w B 3 1 (.slice none 0 0) 0 [] := ⟨rfl, .inl ⟨rfl, rfl⟩⟩
theorem flL_len (W H r : Nat) (T : List Int) : (flL W H r T).length = W * H := byL_len _ _ _
theorem fnExactFloor_walk (W H : Int) (u : Option Addr) (n c : Nat) (L : List Int) (R : Int) (w : World) (hn : n ≤ 9223372036854775807) (hl : L.length = n)
    (hx : n ≠ 0 → ∃ p po, u = some ⟨p, po, none⟩ ∧ p < w.heap.size ∧ IntsAt w p po L) (wR : (Lit.int IntKind.i64 R).wf = true) :
    Calls Try.prog 7 #[fldV W H u n c, .int .i64 R] w fun e w' => e = .returned (.bool true) ∧ Below w.heap.size w w' := by
  obtain ⟨p, po, hu⟩ := its_of hl hx
  by_cases hb : n ≤ 1048576
  · by_cases hO : FOk W H L ∧ 0 ≤ R ∧ R ≤ 3
    · obtain ⟨h1, h2, h3⟩ := hO
      obtain ⟨a, b, rfl, rfl, ha1, ha2, hb1, hb2, hlen⟩ := h1.nat
      obtain ⟨r, rfl⟩ : ∃ r : Nat, R = (r : Int) := ⟨R.toNat, by omega⟩
      have hnn : n = a * b := by rw [← hl]; exact hlen
      refine fnExactFloor_core _ _ _ u p po n c L (a : Int) (b : Int) 0 n (flL a b r L) w hb hl hu (by rw [hnn]; exact Nat.mul_le_mul ha2 hb2) (by rw [flL_len, hnn]) (hide fun g X hX => ?_) (hide fun g X hX => ?_)
      · refine (flM_good a b r g 0 n n L X h1 (by omega) ⟨hX.lt, hX.ints, hl, Nat.le_refl _, hn⟩).mono ?_
        rintro e w' ⟨⟨q, cap, he, hr⟩, hb'⟩
        exact ⟨⟨_, _, he, hr⟩, hb'⟩
      · refine (flP_good a b r g 0 n n L X h1 (by omega) ⟨hX.lt, hX.ints, hl, Nat.le_refl _, hn⟩).mono ?_
        rintro e w' ⟨⟨q, cap, he, hr⟩, hb'⟩
        exact ⟨⟨_, _, he, hr⟩, hb'⟩
    · refine fnExactFloor_core _ _ _ u p po n c L 0 0 1 0 [] w hb hl hu (by omega) rfl (hide fun g X hX => ?_) (hide fun g X hX => ?_)
      · refine (flM_bad W H R (some ⟨g, 0, none⟩) g 0 n n L X hO hl hn hX.its).mono ?_
        rintro e w' ⟨he, hb'⟩
        exact ⟨⟨none, 0, he, nil_row _ _⟩, hb'⟩
      · refine (flP_bad W H R (some ⟨g, 0, none⟩) g 0 n n L X hO hl hn hX.its).mono ?_
        rintro e w' ⟨he, hb'⟩
        exact ⟨⟨none, 0, he, nil_row _ _⟩, hb'⟩
  · have HB0 := hide (ba (Below.refl w.heap.size w) (.cells #[.int .i64 W, .int .i64 H, .slice u n c] 42))
    have HZ := hide (fun X => fd_sz_out W H u n c 1048576 X (by omega) (by omega) (by omega) hn)
    unfold fldV at *
    clear hx hu hl
    go_enter Try.func7, Try.ntmps7
    go_wp2_with fail
    refine (unhide HZ _).mono ?_
    rintro e W0 ⟨rfl, hb0⟩
    have HB1 := hide (bc (unhide HB0) hb0)
    clear hb0
    go_wp2_with fail
    go_ret
    exact ⟨rfl, unhide HB1⟩
theorem fnExactFloor_own : ownKnob Try.prog.godebug = none := by kernel_rfl
theorem fnExactFloor_laidOut : laidOutB Try.prog = true := by kernel_rfl

set_option maxRecDepth 100000 in
theorem fnExactFloor_lifted (os : Os) (started : os.Started) (H : Type) (enc : TypeId × Value → H) :
    ReturnsInHanded {} Try.checked os 7 .any (Rows.fnExactFloorSpec.pre6 enc Try.prog Try.f7 Rows.fnExactFloorRow.domain false) (Rows.fnExactFloorSpec.post enc Try.prog Try.f7 false true false false) := by
  refine returnsInHanded_of_change (C := Try.checked) fnExactFloor_own started (by kernel_rfl) Try.func7
    (ChangeSpec.witness6 (enc := enc) (C := Try.checked) false ⟨#[], #[.agg #[.int .i64 0, .int .i64 0, .slice none 0 0], .int .i64 0], []⟩ 8 (by kernel_rfl) (by kernel_rfl) (by kernel_rfl) (by kernel_rfl)) ?_
  intro W base args ds gs before hval0 hW hcnd _
  have hval : ∀ (j : Nat) t v, Try.f7.params[j]? = some t → args[j]? = some v → Value.okWide Try.prog W .any base t v := hval0
  have hW' := hW
  obtain ⟨p, q, hA0, hV, rfl, hfz, hnd⟩ := hW
  have hA : DataW.TrodAll enc Try.prog W 0 (fun _ => true) true Try.f7.params.toList args.toList ds p := hA0
  rw [Try.params7] at hA hval
  obtain ⟨v0, vs0, d0, ds0, p0, q0, hargs, rfl, rfl, h0, r0⟩ := trodAll_cons hA
  obtain ⟨v1, vs1, d1, ds1, p1, q1, rfl, rfl, rfl, h1, r1⟩ := trodAll_cons r0
  obtain ⟨rfl, rfl, rfl⟩ := trodAll_nil r1
  obtain rfl : args = #[v0, v1] := by cases args; simp_all
  obtain ⟨rfl, rfl⟩ := trodVars_none hV
  have k0 := h0
  have lt0 : ∀ x ∈ p0, x.block < W.heap.size := by obtain ⟨m, hm⟩ := k0; exact DataW.trod_lt m _ _ _ hm
  obtain ⟨c0, e0, s0, y0, x0, z0, m0, rfl, rfl, rfl, hy0, hx0, hz0⟩ := open_agg3 Try.underlying42 (by kernel_rfl) cells42 (hval 0 42 v0 rfl rfl) h0
  obtain ⟨n0, en0, _, wn0⟩ := DataW.trod_int Try.underlying3 hy0
  obtain ⟨o0, eo0, _, wo0⟩ := DataW.trod_int Try.underlying3 hx0
  simp at en0 eo0
  subst en0 eo0
  obtain ⟨a0, len0, cap0, L0, hcs0, b0, l0, w0⟩ := open_irow Try.underlying23 Try.underlying3 (by kernel_rfl) hz0
  simp at hcs0
  subst hcs0
  obtain ⟨a1, rfl, rfl, rfl, w1⟩ := open_int Try.underlying3 (hval 1 3 v1 rfl rfl) h1
  clear hA0 hval0
  refine (fnExactFloor_walk n0 o0 a0 len0 cap0 L0 a1 W b0 l0 w0 w1).mono fun e W' ⟨he, bel⟩ => ?_
  subst he
  exact ⟨_, rfl, _, _, _, [], _, [], hW', trodAll_mk1 (shut_bool Try.underlying4 _), (trodAll_cons_mk (Below.trod fnExactFloor_laidOut (by kernel_rfl) (of_decide_eq_true (by kernel_rfl)) k0 bel lt0) (trodAll_cons_mk (shut_int Try.underlying3 w1) trodAll_mk0)), rfl, bel.frame _, fun h => by cases h⟩

theorem fnExactFloor_over : Rows.fnExactFloorRow.holds Try.pinned (OpenSpec.ofChange Rows.fnExactFloorSpec) :=
  OpenClaim.holds_of_wide 7 Try.f7 rfl rfl rfl rfl rfl rfl rfl ⟨rfl, rfl, rfl, rfl, rfl⟩ rfl rfl rfl rfl rfl (by kernel_rfl) Try.func7 (by kernel_rfl)
    (of_decide_eq_true (by kernel_rfl)) (by unfold Func.isWrapper; first | (rw [if_pos (by decide +kernel)]; kernel_rfl) | (rw [if_neg (by decide +kernel)]; exact ⟨rfl, rfl⟩))
    (fun os started H enc _ => fnExactFloor_lifted os started H enc)

/-- The statement, as it was given. -/
theorem fnExactFloor_holds : Rows.FnExactFloorSaid := fnExactFloor_over
#print axioms fnExactFloor_holds
end Go.Proofs.Ytbjljofgpbecbaa
