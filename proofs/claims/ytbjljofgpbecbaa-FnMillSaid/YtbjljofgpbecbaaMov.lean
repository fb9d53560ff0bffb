/-
  The model's move of a milling.
-/
import Derived.Test.YtbjljofgpbecbaaPlc
import Derived.Test.YtbjljofgpbecbaaSml
namespace Go.Proofs.Ytbjljofgpbecbaa
open Go.ChangeShapes Go.WideShapes Go.ChangeAt Go.RowKit
set_option linter.unusedVariables false
set_option linter.unusedSimpArgs false

theorem Rn.setAt {X : World} {B M : Nat} {W H : Int} {g po n c : Nat} {P : List Int} {r : Int} {f : Bool} {ax ay az : Int} {q cap : Nat} {s : Ml} (h : Rn X B M W H g po n c P r f ax ay az q cap s) (hq : M ≠ q) (hg : g ≠ M) (f' : Bool) (x y z : Int) :
    Rn ((((X.setCell ⟨M, 4, none⟩ (.bool f')).setCell ⟨M, 5, none⟩ (.int .i64 x)).setCell ⟨M, 6, none⟩ (.int .i64 y)).setCell ⟨M, 7, none⟩ (.int .i64 z)) B M W H g po n c P r f' x y z q cap s := by
  have hb : ∀ k, k ≠ M → ((((X.setCell ⟨M, 4, none⟩ (.bool f')).setCell ⟨M, 5, none⟩ (.int .i64 x)).setCell ⟨M, 6, none⟩ (.int .i64 y)).setCell ⟨M, 7, none⟩ (.int .i64 z)).heap[k]? = X.heap[k]? := fun k hk =>
    (Below.heap_setCell _ _ _ _ hk).trans ((Below.heap_setCell _ _ _ _ hk).trans ((Below.heap_setCell _ _ _ _ hk).trans (Below.heap_setCell _ _ _ _ hk)))
  exact ⟨(((h.v.set 4 _).set 5 _).set 6 _).set 7 _, h.row.kept' (fun b hb' => by simp only [Value.ownBlock, Option.some.injEq] at hb'; subst hb'; exact hb _ (Ne.symm hq)), by simpa [World.setCell] using h.lt, fun j v hj => (World.cell?_of_block (w := X) (a := ⟨g, po + j, none⟩) (hb g hg)).trans (h.part j v hj)⟩
theorem walkC_ok {n : Nat} {P : List Int} {W H r : Nat} {fast : Bool} {fx fy fz tx ty tz : Int} {s : Ml} (hr : r ≤ 3) (hH : 0 < H) (hn : n = W * H) (h : MOk n s) (hz : ∀ i, 1 ≤ i → i ≤ max (stN fx fy fz tx ty tz) 1 → 0 ≤ nth fz tz i) : ∀ k, k ≤ max (stN fx fy fz tx ty tz) 1 → MOk n (walkC P W H r fast fx fy fz tx ty tz s k).2 ∧ s.air ≤ (walkC P W H r fast fx fy fz tx ty tz s k).2.air ∧ (walkC P W H r fast fx fy fz tx ty tz s k).2.air ≤ s.air + k := by
  intro k
  induction k with
  | zero => intro _; exact ⟨h, Int.le_refl _, by show s.air ≤ s.air + 0; omega⟩
  | succ k ih =>
    intro hk
    obtain ⟨h1, h2, h3⟩ := ih (by omega)
    simp only [walkC]
    split
    · exact ⟨h1, h2, by omega⟩
    · have := placeC_ok (P := P) (cs := cols W H r (nth fx tx (k + 1)).toNat (nth fy ty (k + 1)).toNat) (z := nth fz tz (k + 1)) (f := fast) h1 (hz (k + 1) (by omega) hk) (fun i hi => by rw [hn]; exact cols_lt hr hH hi)
      exact ⟨this.1, by omega, by omega⟩
theorem walkC_stick {P : List Int} {W H r : Nat} {fast : Bool} {fx fy fz tx ty tz : Int} {s : Ml} {k : Nat} (h : (walkC P W H r fast fx fy fz tx ty tz s k).1 ≠ 0) : ∀ d, walkC P W H r fast fx fy fz tx ty tz s (k + d) = walkC P W H r fast fx fy fz tx ty tz s k := by
  intro d
  induction d with
  | zero => rfl
  | succ d ih =>
    show walkC P W H r fast fx fy fz tx ty tz s ((k + d) + 1) = _
    simp only [walkC]
    rw [if_pos (by rw [ih]; exact h), ih]
theorem sg_cases (x : Int) : sg x = 1 ∨ sg x = -1 ∨ sg x = 0 := by unfold sg; split <;> (try split) <;> simp
theorem sg_mul {x : Int} {k : Nat} (hk : k ≤ 1000) : -1000 ≤ sg x * (k : Int) ∧ sg x * (k : Int) ≤ 1000 := by
  rcases sg_cases x with h | h | h <;> rw [h] <;> omega
def abI (x : Int) : Int := (x.natAbs : Int)
theorem abM' (x : Int) (w : World) (h1 : -1000 ≤ x) (h2 : x ≤ 1000) : Calls Try.prog 74 #[.int .i64 x] w fun e w' => e = .returned (.int .i64 (abI x)) ∧ w' = w := abM_any x w h1 h2
theorem abI_le {x : Int} (h1 : -100 ≤ x) (h2 : x ≤ 100) : 0 ≤ abI x ∧ abI x ≤ 100 := by unfold abI; omega
theorem stN_ab (fx fy fz tx ty tz : Int) : max (abI (tx - fx) + abI (ty - fy) + abI (tz - fz)) 1 = ((max (stN fx fy fz tx ty tz) 1 : Nat) : Int) := by unfold abI stN; omega
/-- the code of a move -/
def mvC (P : List Int) (W H r : Nat) (fast : Bool) (fx fy fz tx ty tz : Int) (s : Ml) : Int :=
  if wyC W H fx fy fz tx ty tz ≠ 0 then wyC W H fx fy fz tx ty tz else (walkC P W H r fast fx fy fz tx ty tz s (max (stN fx fy fz tx ty tz) 1)).1
set_option maxHeartbeats 8000000 in
set_option maxRecDepth 100000 in
theorem mvM_range (W H r : Nat) (fast : Bool) (tx ty tz : Int) (B M g po n c q cap : Nat) (P : List Int) (f : Bool) (ax ay az : Int) (s : Ml) (w : World)
    (hIn : ¬ inR W H tx ty tz) (hR : Rn w B M W H g po n c P r f ax ay az q cap s) :
    Calls Try.prog 46 #[.pointer (some ⟨M, 0, none⟩), .agg #[.bool fast, .int .i64 tx, .int .i64 ty, .int .i64 tz]] w fun e w' => e = .returned (.int .i64 5) ∧ Below w.heap.size w w' := by
  have hb : Below w.heap.size w (w.alloc (.cells #[.bool fast, .int .i64 tx, .int .i64 ty, .int .i64 tz] 36)) := ba (Below.refl _ _) _
  have hR1 := hR.bel hb
  have HB := hide hb
  have k8 := hR1.v.cell (m := 8) rfl
  have k9 := hR1.v.cell (m := 9) rfl
  have v3 := vb_new w 36 [.bool fast, .int .i64 tx, .int .i64 ty, .int .i64 tz] w.heap.size rfl
  have b1 := v3.cell (m := 1) rfl
  have b2 := v3.cell (m := 2) rfl
  have b3 := v3.cell (m := 3) rfl
  unfold inR at hIn
  clear hR hR1 v3 hb
  go_enter Try.func46, Try.ntmps46
  go_wp2_with fail
  generalize w.alloc (.cells #[.bool fast, .int .i64 tx, .int .i64 ty, .int .i64 tz] 36) = Wa at *
  by_cases a1 : tx < 0
  · have t1 := decide_eq_true a1
    clear hIn
    go_quiet (fail)
    go_wp2_with fail
    go_ret
    exact ⟨rfl, by repeat (first | exact unhide HB | refine bel_dn' ?_ _ | refine Below.drew ?_)⟩
  have t1 := decide_eq_false a1
  by_cases a2 : (W : Int) ≤ tx
  · have t2 := decide_eq_true a2
    clear hIn
    go_quiet (fail)
    go_wp2_with fail
    go_ret
    exact ⟨rfl, by repeat (first | exact unhide HB | refine bel_dn' ?_ _ | refine Below.drew ?_)⟩
  have t2 := decide_eq_false a2
  by_cases a3 : ty < 0
  · have t3 := decide_eq_true a3
    clear hIn
    go_quiet (fail)
    go_wp2_with fail
    go_ret
    exact ⟨rfl, by repeat (first | exact unhide HB | refine bel_dn' ?_ _ | refine Below.drew ?_)⟩
  have t3 := decide_eq_false a3
  by_cases a4 : (H : Int) ≤ ty
  · have t4 := decide_eq_true a4
    clear hIn
    go_quiet (fail)
    go_wp2_with fail
    go_ret
    exact ⟨rfl, by repeat (first | exact unhide HB | refine bel_dn' ?_ _ | refine Below.drew ?_)⟩
  have t4 := decide_eq_false a4
  by_cases a5 : tz < 0
  · have t5 := decide_eq_true a5
    clear hIn
    go_quiet (fail)
    go_wp2_with fail
    go_ret
    exact ⟨rfl, by repeat (first | exact unhide HB | refine bel_dn' ?_ _ | refine Below.drew ?_)⟩
  have t5 := decide_eq_false a5
  by_cases a6 : 24 < tz
  · have t6 := decide_eq_true a6
    clear hIn
    go_quiet (fail)
    go_wp2_with fail
    go_ret
    exact ⟨rfl, by repeat (first | exact unhide HB | refine bel_dn' ?_ _ | refine Below.drew ?_)⟩
  exact absurd ⟨⟨by omega, by omega⟩, ⟨by omega, by omega⟩, by omega, by omega⟩ hIn
set_option maxHeartbeats 8000000 in
set_option maxRecDepth 100000 in
theorem mvM_in (W H r : Nat) (fast : Bool) (tx ty tz : Int) (B M g po n c q cap : Nat) (P : List Int) (f : Bool) (ax ay az : Int) (s : Ml) (w : World)
    (hW1 : 1 ≤ W) (hW : W ≤ 24) (hH1 : 1 ≤ H) (hH : H ≤ 24) (hr : r ≤ 3) (hn : n = W * H) (hP : P.length = n) (hPt : ∀ i, 0 ≤ tp P i ∧ tp P i ≤ 24) (hO : MOk n s) (hA : 0 ≤ s.air ∧ s.air ≤ 900000)
    (hMq : M ≠ q) (hMg : g ≠ M) (hqg : g ≠ q) (hIn : inR W H tx ty tz) (hAt : inR W H ax ay az) (hR : Rn w B M W H g po n c P r f ax ay az q cap s) :
    Calls Try.prog 46 #[.pointer (some ⟨M, 0, none⟩), .agg #[.bool fast, .int .i64 tx, .int .i64 ty, .int .i64 tz]] w fun e w' => e = .returned (.int .i64 (mvC P W H r fast ax ay az tx ty tz s)) ∧ (mvC P W H r fast ax ay az tx ty tz s = 0 → Rn w' B M W H g po n c P r fast tx ty tz q cap (walkC P W H r fast ax ay az tx ty tz s (max (stN ax ay az tx ty tz) 1)).2) ∧ Mq M q w w' := by
  have HPL := hide (fun (x y : Nat) (z : Int) (s' : Ml) (X : World) (hx : x < W) (hy : y < H) (hz : 0 ≤ z ∧ z ≤ 24) (hO' : MOk n s') (hA' : 0 ≤ s'.air ∧ s'.air ≤ 1000000) (hR' : Rn X B M W H g po n c P r f ax ay az q cap s') => plM_any W H r x y z fast B M g po n c q cap P f ax ay az s' X hW1 hW hH hr hx hy hn hz hP hPt hO' hA' hMq hMg hqg hR')
  have HCH := hide (fun X => chM_any f fast ax ay az tx ty tz X)
  have hb : Below w.heap.size w (w.alloc (.cells #[.bool fast, .int .i64 tx, .int .i64 ty, .int .i64 tz] 36)) := ba (Below.refl _ _) _
  have hR1 := hR.bel hb
  have HB := hide hb
  have HR1 := hide hR1
  have k4 := hR1.v.cell (m := 4) rfl
  have k5 := hR1.v.cell (m := 5) rfl
  have k6 := hR1.v.cell (m := 6) rfl
  have k7 := hR1.v.cell (m := 7) rfl
  have k8 := hR1.v.cell (m := 8) rfl
  have k9 := hR1.v.cell (m := 9) rfl
  have v3 := vb_new w 36 [.bool fast, .int .i64 tx, .int .i64 ty, .int .i64 tz] w.heap.size rfl
  have HV3 := hide v3
  have b0 := v3.cell (m := 0) rfl
  have b1 := v3.cell (m := 1) rfl
  have b2 := v3.cell (m := 2) rfl
  have b3 := v3.cell (m := 3) rfl
  have HMw : Hid (M < w.heap.size) := hide hR.v.lt
  have HQw : Hid (q < w.heap.size) := hide (World.ownsRow.lt hR.row q rfl).2
  have HWY : Hid (wyC W H ax ay az tx ty tz = if 1 < chg ax ay az tx ty tz then 13 else 0) := hide (by unfold wyC; rw [if_neg (by simpa using hIn)])
  have HOO := hide hO
  have HWK := hide (fun (hst : str ax ay az tx ty tz) => walkC_ok (P := P) (fast := fast) (fx := ax) (fy := ay) (fz := az) (tx := tx) (ty := ty) (tz := tz) hr (by omega) hn hO (fun i h1 h2 => ((nth_lo hst (i := i) (lo := 0) (hi' := 24) h2 h1).2.2 ⟨hAt.2.2.1, hAt.2.2.2⟩ ⟨hIn.2.2.1, hIn.2.2.2⟩).1))
  obtain ⟨⟨i1, i2⟩, ⟨i3, i4⟩, i5, i6⟩ := hIn
  obtain ⟨⟨a1, a2⟩, ⟨a3, a4⟩, a5, a6⟩ := hAt
  obtain ⟨ha0, ha1⟩ := hA
  have t1 : decide (tx < 0) = false := decide_eq_false (by omega)
  have t2 : decide ((W : Int) ≤ tx) = false := decide_eq_false (by omega)
  have t3 : decide (ty < 0) = false := decide_eq_false (by omega)
  have t4 : decide ((H : Int) ≤ ty) = false := decide_eq_false (by omega)
  have t5 : decide (tz < 0) = false := decide_eq_false (by omega)
  have t6 : decide (24 < tz) = false := decide_eq_false (by omega)
  clear hR hR1 v3 hb hP hPt hO hn
  go_enter Try.func46, Try.ntmps46
  go_wp2_with fail
  generalize w.alloc (.cells #[.bool fast, .int .i64 tx, .int .i64 ty, .int .i64 tz] 36) = Wa at *
  go_quiet (fail)
  go_upto_region 3 with fail
  go_cut [56] (fun s56 wx => s56 = .bool (decide (1 < chg ax ay az tx ty tz)) ∧ Rn wx B M W H g po n c P r f ax ay az q cap s ∧ vb wx w.heap.size 36 [.bool fast, .int .i64 tx, .int .i64 ty, .int .i64 tz] ∧ Below w.heap.size w wx)
  case first =>
    go_region_held3 (fun wx => wx.cell? ⟨M, 4, none⟩ = some (.bool f) ∧ wx.cell? ⟨M, 5, none⟩ = some (.int .i64 ax) ∧ wx.cell? ⟨M, 6, none⟩ = some (.int .i64 ay) ∧ wx.cell? ⟨M, 7, none⟩ = some (.int .i64 az) ∧ wx.cell? ⟨w.heap.size, 0, none⟩ = some (.bool fast) ∧ wx.cell? ⟨w.heap.size, 1, none⟩ = some (.int .i64 tx) ∧ wx.cell? ⟨w.heap.size, 2, none⟩ = some (.int .i64 ty) ∧ wx.cell? ⟨w.heap.size, 3, none⟩ = some (.int .i64 tz))
      (simp (maxDischargeDepth := 12) [go_sem, le1, lt1, *])
      (first
      | (go_at_call 73; refine (unhide HCH _).mono ?_; rintro e w' ⟨rfl, hb⟩; have HBx := hide (show Below Wa.heap.size Wa w' from bc (by repeat (first | exact Below.refl _ _ | refine bel_dn' ?_ _ | refine Below.drew ?_)) hb); have y0 := keep1 hb (b := M) (o := 4) (v := .bool f) (by simp (maxDischargeDepth := 12) [go_sem, le1, lt1, *]); have y1 := keep1 hb (b := M) (o := 5) (v := .int .i64 ax) (by simp (maxDischargeDepth := 12) [go_sem, le1, lt1, *]); have y2 := keep1 hb (b := M) (o := 6) (v := .int .i64 ay) (by simp (maxDischargeDepth := 12) [go_sem, le1, lt1, *]); have y3 := keep1 hb (b := M) (o := 7) (v := .int .i64 az) (by simp (maxDischargeDepth := 12) [go_sem, le1, lt1, *]); have y4 := keep1 hb (b := w.heap.size) (o := 0) (v := .bool fast) (by simp (maxDischargeDepth := 12) [go_sem, le1, lt1, *]); have y5 := keep1 hb (b := w.heap.size) (o := 1) (v := .int .i64 tx) (by simp (maxDischargeDepth := 12) [go_sem, le1, lt1, *]); have y6 := keep1 hb (b := w.heap.size) (o := 2) (v := .int .i64 ty) (by simp (maxDischargeDepth := 12) [go_sem, le1, lt1, *]); have y7 := keep1 hb (b := w.heap.size) (o := 3) (v := .int .i64 tz) (by simp (maxDischargeDepth := 12) [go_sem, le1, lt1, *]); clear hb))
    all_goals
      go_wp2_with fail
      go_meet
      case rel => exact ⟨rfl, (unhide HR1).bel (by repeat (first | exact unhide HBx | refine bel_dn' ?_ _ | refine Below.drew ?_)), (unhide HV3).bel (by repeat (first | exact unhide HBx | refine bel_dn' ?_ _ | refine Below.drew ?_)), bc (unhide HB) (by repeat (first | exact unhide HBx | refine bel_dn' ?_ _ | refine Below.drew ?_))⟩
  case rest =>
    obtain ⟨rfl, hrn, hv3, hw⟩ := hcut
    clear k4 k5 k6 k7 k8 k9 b0 b1 b2 b3 HR1 HV3 HB
    have k4 := hrn.v.cell (m := 4) rfl
    have k5 := hrn.v.cell (m := 5) rfl
    have k6 := hrn.v.cell (m := 6) rfl
    have k7 := hrn.v.cell (m := 7) rfl
    have b1 := hv3.cell (m := 1) rfl
    have b2 := hv3.cell (m := 2) rfl
    have b3 := hv3.cell (m := 3) rfl
    have HRC := hide hrn
    have HVC := hide hv3
    have HWC := hide hw
    clear hrn hv3 hw
    by_cases hc : 1 < chg ax ay az tx ty tz
    · rw [decide_eq_true hc]
      have HE : Hid (mvC P W H r fast ax ay az tx ty tz s = 13) := hide (by unfold mvC; rw [unhide HWY, if_pos hc]; simp)
      go_wp2_with fail
      go_ret
      exact ⟨by rw [unhide HE]; first | done | rfl, fun h => by rw [unhide HE] at h; omega, Mq.of_bel (unhide HWC)⟩
    · rw [decide_eq_false hc]
      have hst : str ax ay az tx ty tz := chg_str.1 (by omega)
      have HE : Hid (mvC P W H r fast ax ay az tx ty tz s = (walkC P W H r fast ax ay az tx ty tz s (max (stN ax ay az tx ty tz) 1)).1) := hide (by unfold mvC; rw [unhide HWY, if_neg hc]; simp)
      have HWO := hide ((unhide HWK) hst)
      have HNL := hide (fun i (h1 : 1 ≤ i) (h2 : i ≤ max (stN ax ay az tx ty tz) 1) => nth_lo hst (i := i) (lo := 0) (hi' := 24) h2 h1)
      have HNX := hide (fun i (h1 : 1 ≤ i) (h2 : i ≤ max (stN ax ay az tx ty tz) 1) => (nth_lo hst (i := i) (lo := 0) (hi' := (W : Int) - 1) h2 h1).1 ⟨a1, a2⟩ ⟨i1, i2⟩)
      have HNY := hide (fun i (h1 : 1 ≤ i) (h2 : i ≤ max (stN ax ay az tx ty tz) 1) => (nth_lo hst (i := i) (lo := 0) (hi' := (H : Int) - 1) h2 h1).2.1 ⟨a3, a4⟩ ⟨i3, i4⟩)
      have HNZ := hide (fun i (h1 : 1 ≤ i) (h2 : i ≤ max (stN ax ay az tx ty tz) 1) => (nth_lo hst (i := i) (lo := 0) (hi' := 24) h2 h1).2.2 ⟨a5, a6⟩ ⟨i5, i6⟩)
      have wx : IntKind.i64.wrap (tx - ax) = tx - ax := Go.IntWalk.i64_in _ ⟨by omega, by omega⟩
      have wy : IntKind.i64.wrap (ty - ay) = ty - ay := Go.IntWalk.i64_in _ ⟨by omega, by omega⟩
      have wz : IntKind.i64.wrap (tz - az) = tz - az := Go.IntWalk.i64_in _ ⟨by omega, by omega⟩
      obtain ⟨p1, p2⟩ := abI_le (x := tx - ax) (by omega) (by omega)
      obtain ⟨p3, p4⟩ := abI_le (x := ty - ay) (by omega) (by omega)
      obtain ⟨p5, p6⟩ := abI_le (x := tz - az) (by omega) (by omega)
      have wu : IntKind.i64.wrap (abI (tx - ax) + abI (ty - ay)) = abI (tx - ax) + abI (ty - ay) := Go.IntWalk.i64_in _ ⟨by omega, by omega⟩
      have wv : IntKind.i64.wrap (abI (tx - ax) + abI (ty - ay) + abI (tz - az)) = abI (tx - ax) + abI (ty - ay) + abI (tz - az) := Go.IntWalk.i64_in _ ⟨by omega, by omega⟩
      have mN := stN_ab ax ay az tx ty tz
      have hNb : max (stN ax ay az tx ty tz) 1 ≤ 400 := by unfold stN; omega
      obtain ⟨N, hN⟩ : ∃ N, max (stN ax ay az tx ty tz) 1 = N := ⟨_, rfl⟩
      rw [hN] at mN hNb HE HWO HNL HNX HNY HNZ
      have HNE := hide hN
      clear hc hst hN
      go_upto_region 5 with fail
      generalize hWcc : wc = Wc at *
      clear hWcc
      go_cut [5] (fun s5 wx => s5 = .int .i64 (N : Int) ∧ Same Wc wx)
      case first =>
        go_region_held3 (fun wx => wx.cell? ⟨M, 5, none⟩ = some (.int .i64 ax) ∧ wx.cell? ⟨M, 6, none⟩ = some (.int .i64 ay) ∧ wx.cell? ⟨M, 7, none⟩ = some (.int .i64 az) ∧ wx.cell? ⟨w.heap.size, 1, none⟩ = some (.int .i64 tx) ∧ wx.cell? ⟨w.heap.size, 2, none⟩ = some (.int .i64 ty) ∧ wx.cell? ⟨w.heap.size, 3, none⟩ = some (.int .i64 tz))
          (simp (maxDischargeDepth := 12) [go_sem, le1, lt1, *])
          (first
          | (go_at_call 74; refine (abM' _ _ (by omega) (by omega)).mono ?_; rintro e w7 ⟨rfl, rfl⟩))
        all_goals
          go_wp2_with fail
          go_meet
          case rel => exact ⟨rfl, by repeat (first | exact Same.refl _ | refine Same.dn ?_ _ | refine Same.drew ?_)⟩
      case rest =>
        obtain ⟨rfl, hsm⟩ := hcut
        have HR5 := hide ((unhide HRC).same hsm)
        have HV5 := hide ((unhide HVC).bel hsm.bel)
        have HW5 : Hid (Below w.heap.size w wc) := hide (bc (unhide HWC) hsm.bel)
        clear hsm k4 k5 k6 k7 b1 b2 b3
        have k4 := (unhide HR5).v.cell (m := 4) rfl
        have k5 := (unhide HR5).v.cell (m := 5) rfl
        have k6 := (unhide HR5).v.cell (m := 6) rfl
        have k7 := (unhide HR5).v.cell (m := 7) rfl
        have hAl : Below wc.heap.size wc (wc.alloc (.cells #[.bool f, .int .i64 ax, .int .i64 ay, .int .i64 az] 36)) := ba (Below.refl _ _) _
        have HF6 := hide (vb_new wc 36 [.bool f, .int .i64 ax, .int .i64 ay, .int .i64 az] wc.heap.size rfl)
        have HR6 := hide ((unhide HR5).bel hAl)
        have HV6 := hide ((unhide HV5).bel hAl)
        have HM6 : Hid (Mq M q w (wc.alloc (.cells #[.bool f, .int .i64 ax, .int .i64 ay, .int .i64 az] 36))) := hide (Mq.of_bel (bc (unhide HW5) hAl))
        have HFM : Hid (w.heap.size < wc.heap.size) := hide (unhide HV5).lt
        clear hAl
        go_wp2_with fail
        generalize wc.alloc (.cells #[.bool f, .int .i64 ax, .int .i64 ay, .int .i64 az] 36) = W6 at *
        generalize wc.heap.size = F at *
        clear k4 k5 k6 k7 HR5 HV5 HW5 HRC HVC HWC
        go_loopw [7] (fun zz X => ∃ k : Nat, zz = .int .i64 ((k : Int) + 1) ∧ k ≤ N ∧ (walkC P W H r fast ax ay az tx ty tz s k).1 = 0 ∧ Rn X B M W H g po n c P r f ax ay az q cap (walkC P W H r fast ax ay az tx ty tz s k).2 ∧ vb X w.heap.size 36 [.bool fast, .int .i64 tx, .int .i64 ty, .int .i64 tz] ∧ vb X F 36 [.bool f, .int .i64 ax, .int .i64 ay, .int .i64 az] ∧ Mq M q w X) (fun zz _ => N + 1 - (intOf zz).toNat)
        case atStart => exact ⟨0, rfl, Nat.zero_le _, rfl, unhide HR6, unhide HV6, unhide HF6, unhide HM6⟩
        case round =>
          obtain ⟨k, rfl, hk, hk0, hrn, hvr, hvf, hmq⟩ := hrel
          have HK0 := hide hk0
          have HRk := hide hrn
          have HVk := hide hvr
          have HFk := hide hvf
          have HMk := hide hmq
          have fc1 := hvf.cell (m := 1) rfl
          have fc2 := hvf.cell (m := 2) rfl
          have fc3 := hvf.cell (m := 3) rfl
          have rc0 := hvr.cell (m := 0) rfl
          have rc1 := hvr.cell (m := 1) rfl
          have rc2 := hvr.cell (m := 2) rfl
          have rc3 := hvr.cell (m := 3) rfl
          clear hk0 hrn hvr hvf hmq
          by_cases h : k < N
          · have l1 : (k : Int) + 1 ≤ (N : Int) := by omega
            have lz := decide_eq_true l1
            obtain ⟨hok, hai1, hai2⟩ := (unhide HWO) k (by omega)
            obtain ⟨x0, x1⟩ := (unhide HNX) (k + 1) (by omega) (by omega)
            obtain ⟨y0, y1⟩ := (unhide HNY) (k + 1) (by omega) (by omega)
            obtain ⟨z0, z1⟩ := (unhide HNZ) (k + 1) (by omega) (by omega)
            have smx := sg_mul (x := tx - ax) (k := k + 1) (by omega)
            rw [show ((k + 1 : Nat) : Int) = (k : Int) + 1 by omega] at smx
            obtain ⟨slx, sux⟩ := smx
            have wmx : IntKind.i64.wrap (sg (tx - ax) * ((k : Int) + 1)) = sg (tx - ax) * ((k : Int) + 1) := Go.IntWalk.i64_in _ ⟨by omega, by omega⟩
            have ngx : ax + sg (tx - ax) * ((k : Int) + 1) = nth ax tx (k + 1) := by rw [nth_sg]; rw [show ((k + 1 : Nat) : Int) = (k : Int) + 1 by omega]
            have smy := sg_mul (x := ty - ay) (k := k + 1) (by omega)
            rw [show ((k + 1 : Nat) : Int) = (k : Int) + 1 by omega] at smy
            obtain ⟨sly, suy⟩ := smy
            have wmy : IntKind.i64.wrap (sg (ty - ay) * ((k : Int) + 1)) = sg (ty - ay) * ((k : Int) + 1) := Go.IntWalk.i64_in _ ⟨by omega, by omega⟩
            have ngy : ay + sg (ty - ay) * ((k : Int) + 1) = nth ay ty (k + 1) := by rw [nth_sg]; rw [show ((k + 1 : Nat) : Int) = (k : Int) + 1 by omega]
            have smz := sg_mul (x := tz - az) (k := k + 1) (by omega)
            rw [show ((k + 1 : Nat) : Int) = (k : Int) + 1 by omega] at smz
            obtain ⟨slz, suz⟩ := smz
            have wmz : IntKind.i64.wrap (sg (tz - az) * ((k : Int) + 1)) = sg (tz - az) * ((k : Int) + 1) := Go.IntWalk.i64_in _ ⟨by omega, by omega⟩
            have ngz : az + sg (tz - az) * ((k : Int) + 1) = nth az tz (k + 1) := by rw [nth_sg]; rw [show ((k + 1 : Nat) : Int) = (k : Int) + 1 by omega]
            have HWS : Hid (walkC P W H r fast ax ay az tx ty tz s (k + 1) = placeC P (cols W H r (nth ax tx (k + 1)).toNat (nth ay ty (k + 1)).toNat) (nth az tz (k + 1)) fast (walkC P W H r fast ax ay az tx ty tz s k).2) := hide (by
              show (if _ then _ else _) = _
              rw [if_neg (by rw [unhide HK0]; simp)])
            have HSTK := hide (fun (hh : (walkC P W H r fast ax ay az tx ty tz s (k + 1)).1 ≠ 0) => walkC_stick hh (N - (k + 1)))
            rw [show k + 1 + (N - (k + 1)) = N by omega] at HSTK
            obtain ⟨nx, hnx⟩ : ∃ nx : Nat, nth ax tx (k + 1) = (nx : Int) := ⟨(nth ax tx (k + 1)).toNat, by omega⟩
            obtain ⟨ny, hny⟩ : ∃ ny : Nat, nth ay ty (k + 1) = (ny : Int) := ⟨(nth ay ty (k + 1)).toNat, by omega⟩
            obtain ⟨nz, hnz⟩ : ∃ nz : Int, nth az tz (k + 1) = nz := ⟨_, rfl⟩
            rw [hnx] at x0 x1 ngx HWS
            rw [hny] at y0 y1 ngy HWS
            rw [hnz] at z0 z1 ngz HWS
            simp only [Int.toNat_natCast] at HWS
            have wsx : IntKind.i64.wrap (ax + sg (tx - ax) * ((k : Int) + 1)) = (nx : Int) := by rw [ngx]; exact Go.IntWalk.i64_in _ ⟨by omega, by omega⟩
            have wsy : IntKind.i64.wrap (ay + sg (ty - ay) * ((k : Int) + 1)) = (ny : Int) := by rw [ngy]; exact Go.IntWalk.i64_in _ ⟨by omega, by omega⟩
            have wsz : IntKind.i64.wrap (az + sg (tz - az) * ((k : Int) + 1)) = nz := by rw [ngz]; exact Go.IntWalk.i64_in _ ⟨by omega, by omega⟩
            have wk : IntKind.i64.wrap ((k : Int) + 1 + 1) = (k : Int) + 1 + 1 := Go.IntWalk.i64_in _ ⟨by omega, by omega⟩
            have HPk := hide (fun X hR' => (unhide HPL) nx ny nz (walkC P W H r fast ax ay az tx ty tz s k).2 X (by omega) (by omega) ⟨z0, z1⟩ hok ⟨by omega, by omega⟩ hR')
            generalize walkC P W H r fast ax ay az tx ty tz s k = wlk at *
            have HSk : Hid (Same wr wr) := hide (Same.refl _)
            generalize hWk : wr = Wk at *
            clear hWk hnx hny hnz ngx ngy ngz hok hai1 hai2
            go_upto_region 10 with fail
            go_cut [8] (fun sv wx => sv = .int .i64 (nx : Int) ∧ Same Wk wx)
            case first =>
              go_region_held3 (fun wx => wx.cell? ⟨F, 1, none⟩ = some (.int .i64 ax) ∧ wx.cell? ⟨w.heap.size, 1, none⟩ = some (.int .i64 tx))
                (simp (maxDischargeDepth := 12) [go_sem, le1, lt1, *])
                (first
                | (go_at_call 75; refine (sgM_any _ _).mono ?_; rintro e w7 ⟨rfl, rfl⟩))
              all_goals
                go_wp2_with fail
                go_meet
                case rel => exact ⟨rfl, by repeat (first | exact Same.refl _ | refine Same.dn ?_ _ | refine Same.drew ?_)⟩
            case rest =>
            obtain ⟨rfl, hsm1⟩ := hcut
            have HSm1 := hide hsm1
            rw [← hsm1.cell] at fc1 fc2 fc3 rc0 rc1 rc2 rc3
            clear hsm1
            generalize hW_1 : wc = Wk1 at *
            clear hW_1
            go_upto_region 11 with fail
            go_cut [9] (fun sv wx => sv = .int .i64 (ny : Int) ∧ Same Wk1 wx)
            case first =>
              go_region_held3 (fun wx => wx.cell? ⟨F, 2, none⟩ = some (.int .i64 ay) ∧ wx.cell? ⟨w.heap.size, 2, none⟩ = some (.int .i64 ty))
                (simp (maxDischargeDepth := 12) [go_sem, le1, lt1, *])
                (first
                | (go_at_call 75; refine (sgM_any _ _).mono ?_; rintro e w7 ⟨rfl, rfl⟩))
              all_goals
                go_wp2_with fail
                go_meet
                case rel => exact ⟨rfl, by repeat (first | exact Same.refl _ | refine Same.dn ?_ _ | refine Same.drew ?_)⟩
            case rest =>
            obtain ⟨rfl, hsm2⟩ := hcut
            have HSm2 := hide hsm2
            rw [← hsm2.cell] at fc1 fc2 fc3 rc0 rc1 rc2 rc3
            clear hsm2
            generalize hW_2 : wc = Wk2 at *
            clear hW_2
            go_upto_region 12 with fail
            go_cut [10] (fun sv wx => sv = .int .i64 nz ∧ Same Wk2 wx)
            case first =>
              go_region_held3 (fun wx => wx.cell? ⟨F, 3, none⟩ = some (.int .i64 az) ∧ wx.cell? ⟨w.heap.size, 3, none⟩ = some (.int .i64 tz))
                (simp (maxDischargeDepth := 12) [go_sem, le1, lt1, *])
                (first
                | (go_at_call 75; refine (sgM_any _ _).mono ?_; rintro e w7 ⟨rfl, rfl⟩))
              all_goals
                go_wp2_with fail
                go_meet
                case rel => exact ⟨rfl, by repeat (first | exact Same.refl _ | refine Same.dn ?_ _ | refine Same.drew ?_)⟩
            case rest =>
            obtain ⟨rfl, hsm3⟩ := hcut
            have HSm3 := hide hsm3
            rw [← hsm3.cell] at fc1 fc2 fc3 rc0 rc1 rc2 rc3
            clear hsm3
            generalize hW_3 : wc = Wk3 at *
            clear hW_3
            have HSA : Hid (Same Wk Wk3) := hide (((unhide HSm1).trans (unhide HSm2)).trans (unhide HSm3))
            have HRp := hide ((unhide HRk).same (unhide HSA))
            have HVp := hide ((unhide HVk).bel (unhide HSA).bel)
            have HFp := hide ((unhide HFk).bel (unhide HSA).bel)
            have HMp := hide ((unhide HMk).trans (Mq.of_bel (unhide HSA).bel))
            go_wp2_with fail
            refine (unhide HPk _ (unhide HRp)).mono ?_
            rintro e W9 ⟨rfl, hr9, hm9⟩
            have hMw := unhide HMw
            have hQw := unhide HQw
            have hFM := unhide HFM
            have HM9 := hide ((unhide HMp).trans hm9)
            have HV9 : Hid (vb W9 w.heap.size 36 [.bool fast, .int .i64 tx, .int .i64 ty, .int .i64 tz]) := hide ((hm9.block w.heap.size (unhide HVp).lt (by omega) (by omega)).trans (unhide HVp))
            have HF9 : Hid (vb W9 F 36 [.bool f, .int .i64 ax, .int .i64 ay, .int .i64 az]) := hide ((hm9.block F (unhide HFp).lt (by omega) (by omega)).trans (unhide HFp))
            have HR9 := hide hr9
            obtain ⟨cw, hcw⟩ : ∃ cw, (placeC P (cols W H r nx ny) nz fast wlk.2).1 = cw := ⟨_, rfl⟩
            have HCW := hide hcw
            rw [hcw]
            clear hr9 hm9 hcw fc1 fc2 fc3 rc0 rc1 rc2 rc3 hMw hQw hFM
            by_cases hz9 : cw = 0
            · have tz9 : (cw != 0) = false := by simp [hz9]
              have HZ9 := hide hz9
              clear hz9
              go_wp2_with fail
              go_roundw
              case rel => exact ⟨k + 1, by first | rfl | (simp; done) | (simp; omega), h, by rw [unhide HWS, unhide HCW]; exact unhide HZ9, by rw [unhide HWS]; exact unhide HR9, unhide HV9, unhide HF9, unhide HM9⟩
              case measure => simp only [intOf]; omega
            · have tz9 : (cw != 0) = true := by simp [hz9]
              have HEE : Hid (mvC P W H r fast ax ay az tx ty tz s = cw) := hide (by rw [unhide HE, (unhide HSTK) (by rw [unhide HWS, unhide HCW]; exact hz9), unhide HWS, unhide HCW])
              have HZ9 := hide hz9
              clear hz9
              go_wp2_with fail
              go_ret
              exact ⟨by rw [unhide HEE]; first | done | rfl, fun hh => by rw [unhide HEE] at hh; exact absurd hh (unhide HZ9), unhide HM9⟩
          · have l1 : ¬ (k : Int) + 1 ≤ (N : Int) := by omega
            have lz := decide_eq_false l1
            have ek : k = N := by omega
            rw [ek] at HK0 HRk
            have HEE : Hid (mvC P W H r fast ax ay az tx ty tz s = 0) := hide (by rw [unhide HE]; exact unhide HK0)
            have k4 := (unhide HRk).v.cell (m := 4) rfl
            have k5 := (unhide HRk).v.cell (m := 5) rfl
            have k6 := (unhide HRk).v.cell (m := 6) rfl
            have k7 := (unhide HRk).v.cell (m := 7) rfl
            have kf := (unhide HRk).v.frozen
            clear ek
            go_wp2_with fail
            go_ret
            refine ⟨by rw [unhide HEE]; first | done | rfl, fun _ => ?_, (((((unhide HMk).setA 4 _).setA 5 _).setA 6 _).setA 7 _)⟩
            rw [unhide HNE]
            exact (unhide HRk).setAt hMq hMg fast tx ty tz
end Go.Proofs.Ytbjljofgpbecbaa
