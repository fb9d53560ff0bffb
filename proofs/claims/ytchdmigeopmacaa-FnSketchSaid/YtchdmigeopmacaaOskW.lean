/-
  A drawn sketch with something odd in it, whatever the code.
-/
import Derived.Test.YtchdmigeopmacaaQ11
namespace Go.Proofs.Ytchdmigeopmacaa
open Go.ChangeShapes Go.WideShapes Go.ChangeAt Go.RowKit
set_option linter.unusedVariables false
set_option linter.unusedSimpArgs false

theorem four_any (a b c d : Int) (q : Nat) (h : q < 4) : ∃ x : Int, ([.int .i64 a, .int .i64 b, .int .i64 c, .int .i64 d] : List Value)[q]? = some (.int .i64 x) := by
  have hq : q = 0 ∨ q = 1 ∨ q = 2 ∨ q = 3 := by omega
  rcases hq with rfl | rfl | rfl | rfl
  · exact ⟨a, rfl⟩
  · exact ⟨b, rfl⟩
  · exact ⟨c, rfl⟩
  · exact ⟨d, rfl⟩
theorem four_get {l : List Value} {q : Nat} {x : Int} (h : l[q]? = some (.int .i64 x)) : ∀ hq : q < l.length, l[q]'hq = .int .i64 x := by
  intro hq
  rw [List.getElem?_eq_getElem hq] at h
  simpa using h
def slen (o : Option Value) : Nat := match o with | some (.slice _ l _) => l | _ => 0

set_option maxHeartbeats 4000000 in
set_option maxRecDepth 100000 in
theorem oddSketch_core {B g : Nat} {k : Int} {w : World} (h : So B g k w) (hk : k ≤ 90000000)
    (HSK : Hid (∀ W, So B g k W → Calls Try.prog 38 #[.pointer (some ⟨g, 0, none⟩)] W fun e w' => ∃ (n : Int) (v : Value) (l : Nat) (L : List Int), e = .returned (.agg #[.int .i64 n, v]) ∧ 1 ≤ n ∧ n ≤ 11 ∧ Row w' W.heap.size 35 4 v l L ∧ l ≤ 30 ∧ So B g (k + 10000) w' ∧ Mv g W w')) :
    Calls Try.prog 19 #[.pointer (some ⟨g, 0, none⟩)] w fun e w' => ∃ (n : Int) (v : Value) (l : Nat) (L : List Int), e = .returned (.agg #[.int .i64 n, v]) ∧ Row w' w.heap.size 35 4 v l L ∧ l ≤ 100 ∧ So B g (k + 20000) w' ∧ Mv g w w' := by
  obtain ⟨iR, hi1, hy0, hy1, hy2⟩ := info_parts info35s
  have hg := h.lt
  have hBg := h.above
  have HS0 := hide (h.alloc (.cells #[.int .i64 0, .slice none 0 0] 25))
  clear h
  go_enter Try.func19, Try.ntmps19
  go_wp2_with fail
  refine (unhide HSK _ (unhide HS0)).mono ?_
  rintro e W1 ⟨n, v, l, L, rfl, n1, n2, hrow, hl, hs, mv⟩
  have hsz := mv.size
  simp at hsz
  have H1 : Hid (Sto B g W1.heap.size n (k + 10000) w v l L (W1.alloc (.cells #[.int .i64 n, v] 25))) := hide
    ⟨hs.alloc _, ((Mv.of_bel (ba (Below.refl _ _) _)).trans mv).alloc _, ((sblk_new w 0 _).kept (mv.block _ (by simp) (by omega))).kept (Below.heap_alloc _ _ _ (by omega)), sblk_new W1 n v, by
      have h1 := hrow.alloc (.cells #[.int .i64 n, v] 25)
      simp at h1
      exact h1, by omega, by omega⟩
  obtain ⟨u_, cap_, rfl, _⟩ := hrow.form
  clear hs mv hrow HS0 HSK
  generalize hVV : W1.alloc (.cells #[.int .i64 n, .slice u_ l cap_] 25) = V at *
  go_wp2_with fail
  refine (next_any (k := k + 10000) 30 (unhide H1).so (by omega) (by omega) (by omega)).mono ?_
  rintro e W2 ⟨r, rfl, r0, r1, hs, mv⟩
  have H2 : Hid (Sto B g W1.heap.size n (k + 10003) w (.slice u_ l cap_) l L W2) := hide ((unhide H1).step hs mv |>.up (by omega))
  clear hs mv H1 hVV
  have hr : r = 0 ∨ r = 1 ∨ r = 2 ∨ r = 3 ∨ r = 4 ∨ 5 ≤ r := by omega
  have fin : ∀ (n' : Int) (u' : Option Addr) (c' m' : Nat) (L' : List Int) (W : World), True := fun _ _ _ _ _ _ => trivial
  rcases hr with rfl | rfl | rfl | rfl | rfl | hr
  · go_wp2_with fail
    refine (odd_any (k := k + 10003) (unhide H2).so (by omega)).mono ?_
    rintro e W3 ⟨rr, rfl, rr0, rr1, hs, mv⟩
    have H3 : Hid (Sto B g W1.heap.size n (k + 10006) w (.slice u_ l cap_) l L W3) := hide ((unhide H2).step hs mv |>.up (by omega))
    clear hs mv H2
    go_wp2_with fail
    refine (next_any (k := k + 10006) 4 ((unhide H3).alloc _).so (by omega) (by omega) (by omega)).mono ?_
    rintro e W4 ⟨r4, rfl, r40, r41, hs, mv⟩
    have H4 : Hid (Sto B g W1.heap.size n (k + 10009) w (.slice u_ l cap_) l L W4) := hide (((unhide H3).alloc _).step hs mv |>.up (by omega))
    have hcl : ∃ x : Int, W4.cell? ⟨W3.heap.size, r4.toNat, none⟩ = some (.int .i64 x) := by
      have hq : r4 = 0 ∨ r4 = 1 ∨ r4 = 2 ∨ r4 = 3 := by omega
      have hne : W3.heap.size ≠ g := by have := (unhide H3).hg; have := (unhide H3).mv.size; omega
      rcases hq with rfl | rfl | rfl | rfl
      · exact ⟨0, mv.cell hne (by simp [go_sem])⟩
      · exact ⟨24, mv.cell hne (by simp [go_sem])⟩
      · exact ⟨25, mv.cell hne (by simp [go_sem])⟩
      · exact ⟨rr, mv.cell hne (by simp [go_sem])⟩
    obtain ⟨x, hcl⟩ := hcl
    obtain ⟨q, rfl⟩ := Int.eq_ofNat_of_zero_le r40
    simp only [Int.toNat_natCast] at hcl
    have H5 : Hid (Sto B g W1.heap.size x (k + 10009) w (.slice u_ l cap_) l L (W4.setCell ⟨W1.heap.size, 0, none⟩ (.int .i64 x))) := hide ((unhide H4).setN x)
    clear hs mv H3
    have q0 := (unhide H4).res.c0
    have q1 := (unhide H4).res.c1
    have p0 := (unhide H4).res.frz 0
    have p1 := (unhide H4).res.frz 1
    have x0 := (unhide H4).tb.c0
    have x1 := (unhide H4).tb.c1
    have xf0 := (unhide H4).tb.frz 0
    have xf1 := (unhide H4).tb.frz 1
    have lw := (unhide H4).res.lt
    have lT := (unhide H4).hT
    have lTT := (unhide H4).tb.lt
    have ne1 : W1.heap.size ≠ w.heap.size := by omega
    have ne2 : w.heap.size ≠ W1.heap.size := by omega
    go_wp2_with fail
    have hgB := hBg
    first | exact bodyPost_ret (v := .agg #[.int .i64 x, .slice u_ l cap_]) (by simp [results, Try.results19, go_sem, q0, q1, lw, ne1, ne2]) rfl ⟨x, _, l, L, rfl, (((unhide H5).row.kept' (fun b hb => Below.heap_setCell _ _ _ _ (show b ≠ w.heap.size by have := (World.ownsRow.lt (unhide H5).row b hb).1; omega))).kept' (fun b hb => Below.heap_setCell _ _ _ _ (show b ≠ w.heap.size by have := (World.ownsRow.lt (unhide H5).row b hb).1; omega))).mono (by omega), by omega, (((unhide H5).so.set (by omega) (by omega) _ _).set (by omega) (by omega) _ _).up (by omega), ((unhide H5).mv.new (Nat.le_refl _) _ _).new (Nat.le_refl _) _ _⟩ | exact bodyPost_ret (v := .agg #[.int .i64 x, .slice u_ l cap_]) (by simp [results, Try.results19, go_sem, q0, q1, lw, ne1, ne2]) rfl ⟨x, _, rfl, l, ⟨L, (((unhide H5).row.kept' (fun b hb => Below.heap_setCell _ _ _ _ (show b ≠ w.heap.size by have := (World.ownsRow.lt (unhide H5).row b hb).1; omega))).kept' (fun b hb => Below.heap_setCell _ _ _ _ (show b ≠ w.heap.size by have := (World.ownsRow.lt (unhide H5).row b hb).1; omega))).mono (by omega)⟩, by omega, (((unhide H5).so.set (by omega) (by omega) _ _).set (by omega) (by omega) _ _).up (by omega), ((unhide H5).mv.new (Nat.le_refl _) _ _).new (Nat.le_refl _) _ _⟩
  · go_wp2_with fail
    refine Go.Code.wp_mono (Only.to (fun _ _ h => h)) (q6 hk n1 n2 hl H2 (fun y20 y21 y22 y23 y24 y25 y26 y27 y28 y29 y30 y31 y32 y33 y34 y35 y36 y37 y38 y39 y40 vq cq L2 W' hst => ?_))
    have H9 := hide hst
    clear hst H2
    have q0 := (unhide H9).res.c0
    have q1 := (unhide H9).res.c1
    have p0 := (unhide H9).res.frz 0
    have p1 := (unhide H9).res.frz 1
    have x0 := (unhide H9).tb.c0
    have x1 := (unhide H9).tb.c1
    have xf0 := (unhide H9).tb.frz 0
    have xf1 := (unhide H9).tb.frz 1
    have lw := (unhide H9).res.lt
    have lT := (unhide H9).hT
    have lTT := (unhide H9).tb.lt
    have ne1 : W1.heap.size ≠ w.heap.size := by omega
    have ne2 : w.heap.size ≠ W1.heap.size := by omega
    go_wp2_with fail
    have hgB := hBg
    first | exact bodyPost_ret (v := .agg #[.int .i64 n, .slice vq (l + 1) cq]) (by simp [results, Try.results19, go_sem, q0, q1, lw, ne1, ne2]) rfl ⟨n, _, (l + 1), L2, rfl, (((unhide H9).row.kept' (fun b hb => Below.heap_setCell _ _ _ _ (show b ≠ w.heap.size by have := (World.ownsRow.lt (unhide H9).row b hb).1; omega))).kept' (fun b hb => Below.heap_setCell _ _ _ _ (show b ≠ w.heap.size by have := (World.ownsRow.lt (unhide H9).row b hb).1; omega))).mono (by omega), by omega, (((unhide H9).so.set (by omega) (by omega) _ _).set (by omega) (by omega) _ _).up (by omega), ((unhide H9).mv.new (Nat.le_refl _) _ _).new (Nat.le_refl _) _ _⟩ | exact bodyPost_ret (v := .agg #[.int .i64 n, .slice vq (l + 1) cq]) (by simp [results, Try.results19, go_sem, q0, q1, lw, ne1, ne2]) rfl ⟨n, _, rfl, (l + 1), ⟨L2, (((unhide H9).row.kept' (fun b hb => Below.heap_setCell _ _ _ _ (show b ≠ w.heap.size by have := (World.ownsRow.lt (unhide H9).row b hb).1; omega))).kept' (fun b hb => Below.heap_setCell _ _ _ _ (show b ≠ w.heap.size by have := (World.ownsRow.lt (unhide H9).row b hb).1; omega))).mono (by omega)⟩, by omega, (((unhide H9).so.set (by omega) (by omega) _ _).set (by omega) (by omega) _ _).up (by omega), ((unhide H9).mv.new (Nat.le_refl _) _ _).new (Nat.le_refl _) _ _⟩
  · have lT := (unhide H2).hT
    have ne1 : W1.heap.size ≠ w.heap.size := by omega
    have ne2 : w.heap.size ≠ W1.heap.size := by omega
    go_wp2_with fail
    go_loopw [] (fun W => ∃ (u : Option Addr) (c m : Nat) (L' : List Int), m ≤ 62 ∧ Sto B g W1.heap.size n (k + 10003 + 3 * (m : Int)) w (.slice u m c) m L' W) (fun W => 70 - slen (W.cell? ⟨W1.heap.size, 1, none⟩))
    case atStart => exact ⟨_, _, _, _, by omega, (unhide H2).up (by omega)⟩
    case round =>
      obtain ⟨u, c, m, L', hm, hst⟩ := hrel
      have HST := hide hst
      clear hst
      have x0a := (unhide HST).tb.c0
      have x1a := (unhide HST).tb.c1
      have xfa := (unhide HST).tb.frz 1
      have lT2 := (unhide HST).tb.lt
      have lR2 := (unhide HST).res.lt
      have mS2 := (unhide HST).mv.size
      go_wp2_with fail
      go_region_held3 (fun wx => wx.cell? ⟨W1.heap.size, 1, none⟩ = some (.slice u m c))
        (simp (maxDischargeDepth := 12) [go_sem, le1, lt1, *])
        (first
        | (go_at_call 39; refine (next_any (k := k + 10003 + 3 * (m : Int)) 4 (by first | exact (unhide HST).so | exact ((unhide HST).dn _).so | exact (unhide HST).drew.so) (by omega) (by omega) (by omega)).mono ?_; rintro e W3 ⟨ra, rfl, ra0, ra1, hs, mv⟩; have H3 : Hid (Sto B g W1.heap.size n (k + 10006 + 3 * (m : Int)) w (.slice u m c) m L' W3) := hide (by first | exact ((unhide HST).step hs mv).up (by omega) | exact (((unhide HST).dn _).step hs mv).up (by omega) | exact ((unhide HST).drew.step hs mv).up (by omega)); have x0H3 := (unhide H3).tb.c0; have x1H3 := (unhide H3).tb.c1; have xfH3 := (unhide H3).tb.frz 1; have lTH3 := (unhide H3).tb.lt; have lRH3 := (unhide H3).res.lt; have mSH3 := (unhide H3).mv.size; have hwra : IntKind.i64.wrap (ra - 1) = ra - 1 := wrap_i (by omega) (by omega); have hvra : IntKind.i64.wrap (58 + ra) = 58 + ra := wrap_i (by omega) (by omega); clear hs mv HST))
      by_cases hlt : (m : Int) < 58 + ra
      · have d1 : decide ((m : Int) < 58 + ra) = true := decide_eq_true hlt
        go_wp2_with (at_builtin; refine unhide ?_)
        refine hide ?_
        refine wpList_append_own _ rfl _ _ 23 rfl (w.heap.size + 1) 35 iR _ 4 32 Try.underlying23 hi1 hy0 hy1 hy2 rfl (by decide) _ _ _ rfl ((unhide H3).row.alloc _) _ 1 1 ([5, 0, 0, -(m : Int)].map (Value.int .i64)) rfl rfl (by first | exact news_cells _ _ (by simp) | exact news_drew _ _ (by simp)) ints_one (by unfold maxLen; omega) (by omega) (by simp; omega) ?_
        intro v' wz hown' hgrow _
        have R := hide (own_more (wr := W3) (news := [5, 0, 0, -(m : Int)]) (by repeat (first | exact Below.refl _ _ | refine Below.alloc ?_ (by first | omega | (simp; omega)) _ | refine Below.drew ?_)) (by simp; omega) (unhide H3).row hown' hgrow)
        have AP := hide ((unhide H3).app (ba (Below.refl _ _) _) (unhide R).1 hgrow)
        obtain ⟨u2, c2, rfl, _⟩ := (unhide R).1.form
        have x0 := (unhide AP).1.c0
        have x1 := (unhide AP).1.c1
        have xf1 := (unhide AP).1.frz 1
        have H5 := hide (unhide AP).2.2
        clear hown' hgrow R AP
        go_wp2_with fail
        go_roundw
        case rel => first | exact ⟨_, _, m + 1, _, by omega, (unhide H5).up (by omega)⟩ | ((repeat apply Exists.intro); refine ⟨?_, rfl⟩; exact ⟨_, _, m + 1, _, by omega, (unhide H5).up (by omega)⟩)
        case measure => have y1 := (unhide H5).tb.c1; simp only [y1, x1a, slen]; omega
      · have d1 : decide ((m : Int) < 58 + ra) = false := decide_eq_false hlt
        have q0 := (unhide H3).res.c0
        have q1 := (unhide H3).res.c1
        have p0 := (unhide H3).res.frz 0
        have p1 := (unhide H3).res.frz 1
        have x0 := (unhide H3).tb.c0
        have x1 := (unhide H3).tb.c1
        have xf0 := (unhide H3).tb.frz 0
        have xf1 := (unhide H3).tb.frz 1
        have lw := (unhide H3).res.lt
        have lT := (unhide H3).hT
        have lTT := (unhide H3).tb.lt
        have ne1 : W1.heap.size ≠ w.heap.size := by omega
        have ne2 : w.heap.size ≠ W1.heap.size := by omega
        go_wp2_with fail
        have hgB := hBg
        first | exact bodyPost_ret (v := .agg #[.int .i64 n, .slice u m c]) (by simp [results, Try.results19, go_sem, q0, q1, lw, ne1, ne2]) rfl ⟨n, _, m, L', rfl, (((unhide H3).row.kept' (fun b hb => Below.heap_setCell _ _ _ _ (show b ≠ w.heap.size by have := (World.ownsRow.lt (unhide H3).row b hb).1; omega))).kept' (fun b hb => Below.heap_setCell _ _ _ _ (show b ≠ w.heap.size by have := (World.ownsRow.lt (unhide H3).row b hb).1; omega))).mono (by omega), by omega, (((unhide H3).so.set (by omega) (by omega) _ _).set (by omega) (by omega) _ _).up (by omega), ((unhide H3).mv.new (Nat.le_refl _) _ _).new (Nat.le_refl _) _ _⟩ | exact bodyPost_ret (v := .agg #[.int .i64 n, .slice u m c]) (by simp [results, Try.results19, go_sem, q0, q1, lw, ne1, ne2]) rfl ⟨n, _, rfl, m, ⟨L', (((unhide H3).row.kept' (fun b hb => Below.heap_setCell _ _ _ _ (show b ≠ w.heap.size by have := (World.ownsRow.lt (unhide H3).row b hb).1; omega))).kept' (fun b hb => Below.heap_setCell _ _ _ _ (show b ≠ w.heap.size by have := (World.ownsRow.lt (unhide H3).row b hb).1; omega))).mono (by omega)⟩, by omega, (((unhide H3).so.set (by omega) (by omega) _ _).set (by omega) (by omega) _ _).up (by omega), ((unhide H3).mv.new (Nat.le_refl _) _ _).new (Nat.le_refl _) _ _⟩
  · go_wp2_with fail
    refine Go.Code.wp_mono (Only.to (fun _ _ h => h)) (q11 hk n1 n2 hl H2 (fun y62 y63 y64 y65 y66 y67 y68 y69 y70 y71 y72 y73 y74 vq cq L2 W' hst => ?_))
    have H9 := hide hst
    clear hst H2
    have q0 := (unhide H9).res.c0
    have q1 := (unhide H9).res.c1
    have p0 := (unhide H9).res.frz 0
    have p1 := (unhide H9).res.frz 1
    have x0 := (unhide H9).tb.c0
    have x1 := (unhide H9).tb.c1
    have xf0 := (unhide H9).tb.frz 0
    have xf1 := (unhide H9).tb.frz 1
    have lw := (unhide H9).res.lt
    have lT := (unhide H9).hT
    have lTT := (unhide H9).tb.lt
    have ne1 : W1.heap.size ≠ w.heap.size := by omega
    have ne2 : w.heap.size ≠ W1.heap.size := by omega
    go_wp2_with fail
    have hgB := hBg
    first | exact bodyPost_ret (v := .agg #[.int .i64 n, .slice vq (l + 1) cq]) (by simp [results, Try.results19, go_sem, q0, q1, lw, ne1, ne2]) rfl ⟨n, _, (l + 1), L2, rfl, (((unhide H9).row.kept' (fun b hb => Below.heap_setCell _ _ _ _ (show b ≠ w.heap.size by have := (World.ownsRow.lt (unhide H9).row b hb).1; omega))).kept' (fun b hb => Below.heap_setCell _ _ _ _ (show b ≠ w.heap.size by have := (World.ownsRow.lt (unhide H9).row b hb).1; omega))).mono (by omega), by omega, (((unhide H9).so.set (by omega) (by omega) _ _).set (by omega) (by omega) _ _).up (by omega), ((unhide H9).mv.new (Nat.le_refl _) _ _).new (Nat.le_refl _) _ _⟩ | exact bodyPost_ret (v := .agg #[.int .i64 n, .slice vq (l + 1) cq]) (by simp [results, Try.results19, go_sem, q0, q1, lw, ne1, ne2]) rfl ⟨n, _, rfl, (l + 1), ⟨L2, (((unhide H9).row.kept' (fun b hb => Below.heap_setCell _ _ _ _ (show b ≠ w.heap.size by have := (World.ownsRow.lt (unhide H9).row b hb).1; omega))).kept' (fun b hb => Below.heap_setCell _ _ _ _ (show b ≠ w.heap.size by have := (World.ownsRow.lt (unhide H9).row b hb).1; omega))).mono (by omega)⟩, by omega, (((unhide H9).so.set (by omega) (by omega) _ _).set (by omega) (by omega) _ _).up (by omega), ((unhide H9).mv.new (Nat.le_refl _) _ _).new (Nat.le_refl _) _ _⟩
  · have x1' := (unhide H2).tb.c1
    have lT2 := (unhide H2).tb.lt
    have hszw := (unhide H2).mv.size
    have lres := (unhide H2).res.lt
    go_wp2_with (at_builtin; refine unhide ?_)
    refine hide ?_
    refine wpList_append_own _ rfl _ _ 23 rfl (w.heap.size + 1) 35 iR _ 4 32 Try.underlying23 hi1 hy0 hy1 hy2 rfl (by decide) _ _ _ rfl ((unhide H2).row.alloc _) _ 2 2 ([5, 0, 0, 1, 8, 0, 0, 0].map (Value.int .i64)) rfl rfl (by first | exact news_cells _ _ (by simp) | exact news_drew _ _ (by simp)) ints_one (by unfold maxLen; omega) (by omega) (by simp; omega) ?_
    intro v' wz hown' hgrow _
    have R := hide (own_more (wr := W2) (news := [5, 0, 0, 1, 8, 0, 0, 0]) (by repeat (first | exact Below.refl _ _ | refine Below.alloc ?_ (by first | omega | (simp; omega)) _ | refine Below.drew ?_)) (by simp; omega) (unhide H2).row hown' hgrow)
    have AP := hide ((unhide H2).app (ba (Below.refl _ _) _) (unhide R).1 hgrow)
    obtain ⟨u2, c2, rfl, _⟩ := (unhide R).1.form
    have q0 := (unhide AP).2.1.c0
    have q1 := (unhide AP).2.1.c1
    have p0 := (unhide AP).2.1.frz 0
    have p1 := (unhide AP).2.1.frz 1
    have x0 := (unhide AP).1.c0
    have x1 := (unhide AP).1.c1
    have xf1 := (unhide AP).1.frz 1
    have lw := (unhide AP).2.1.lt
    have lT := (unhide H2).hT
    have ne1 : W1.heap.size ≠ w.heap.size := by omega
    have ne2 : w.heap.size ≠ W1.heap.size := by omega
    have H5 := hide (unhide AP).2.2
    clear hown' hgrow R AP x1'
    go_wp2_with fail
    have hgB := hBg
    first | exact bodyPost_ret (v := .agg #[.int .i64 n, .slice u2 (l + 2) c2]) (by simp [results, Try.results19, go_sem, q0, q1, lw, ne1, ne2]) rfl ⟨n, _, (l + 2), _, rfl, (((unhide H5).row.kept' (fun b hb => Below.heap_setCell _ _ _ _ (show b ≠ w.heap.size by have := (World.ownsRow.lt (unhide H5).row b hb).1; omega))).kept' (fun b hb => Below.heap_setCell _ _ _ _ (show b ≠ w.heap.size by have := (World.ownsRow.lt (unhide H5).row b hb).1; omega))).mono (by omega), by omega, (((unhide H5).so.set (by omega) (by omega) _ _).set (by omega) (by omega) _ _).up (by omega), ((unhide H5).mv.new (Nat.le_refl _) _ _).new (Nat.le_refl _) _ _⟩ | exact bodyPost_ret (v := .agg #[.int .i64 n, .slice u2 (l + 2) c2]) (by simp [results, Try.results19, go_sem, q0, q1, lw, ne1, ne2]) rfl ⟨n, _, rfl, (l + 2), ⟨_, (((unhide H5).row.kept' (fun b hb => Below.heap_setCell _ _ _ _ (show b ≠ w.heap.size by have := (World.ownsRow.lt (unhide H5).row b hb).1; omega))).kept' (fun b hb => Below.heap_setCell _ _ _ _ (show b ≠ w.heap.size by have := (World.ownsRow.lt (unhide H5).row b hb).1; omega))).mono (by omega)⟩, by omega, (((unhide H5).so.set (by omega) (by omega) _ _).set (by omega) (by omega) _ _).up (by omega), ((unhide H5).mv.new (Nat.le_refl _) _ _).new (Nat.le_refl _) _ _⟩
  · have d0 : (r == 0) = false := by simp; omega
    have d1 : (r == 1) = false := by simp; omega
    have d2 : (r == 2) = false := by simp; omega
    have d3 : (r == 3) = false := by simp; omega
    have d4 : (r == 4) = false := by simp; omega
    have q0 := (unhide H2).res.c0
    have q1 := (unhide H2).res.c1
    have p0 := (unhide H2).res.frz 0
    have p1 := (unhide H2).res.frz 1
    have x0 := (unhide H2).tb.c0
    have x1 := (unhide H2).tb.c1
    have xf0 := (unhide H2).tb.frz 0
    have xf1 := (unhide H2).tb.frz 1
    have lw := (unhide H2).res.lt
    have lT := (unhide H2).hT
    have lTT := (unhide H2).tb.lt
    have ne1 : W1.heap.size ≠ w.heap.size := by omega
    have ne2 : w.heap.size ≠ W1.heap.size := by omega
    go_wp2_with fail
    have hgB := hBg
    first | exact bodyPost_ret (v := .agg #[.int .i64 n, .slice u_ l cap_]) (by simp [results, Try.results19, go_sem, q0, q1, lw, ne1, ne2]) rfl ⟨n, _, l, L, rfl, (((unhide H2).row.kept' (fun b hb => Below.heap_setCell _ _ _ _ (show b ≠ w.heap.size by have := (World.ownsRow.lt (unhide H2).row b hb).1; omega))).kept' (fun b hb => Below.heap_setCell _ _ _ _ (show b ≠ w.heap.size by have := (World.ownsRow.lt (unhide H2).row b hb).1; omega))).mono (by omega), by omega, (((unhide H2).so.set (by omega) (by omega) _ _).set (by omega) (by omega) _ _).up (by omega), ((unhide H2).mv.new (Nat.le_refl _) _ _).new (Nat.le_refl _) _ _⟩ | exact bodyPost_ret (v := .agg #[.int .i64 n, .slice u_ l cap_]) (by simp [results, Try.results19, go_sem, q0, q1, lw, ne1, ne2]) rfl ⟨n, _, rfl, l, ⟨L, (((unhide H2).row.kept' (fun b hb => Below.heap_setCell _ _ _ _ (show b ≠ w.heap.size by have := (World.ownsRow.lt (unhide H2).row b hb).1; omega))).kept' (fun b hb => Below.heap_setCell _ _ _ _ (show b ≠ w.heap.size by have := (World.ownsRow.lt (unhide H2).row b hb).1; omega))).mono (by omega)⟩, by omega, (((unhide H2).so.set (by omega) (by omega) _ _).set (by omega) (by omega) _ _).up (by omega), ((unhide H2).mv.new (Nat.le_refl _) _ _).new (Nat.le_refl _) _ _⟩
end Go.Proofs.Ytchdmigeopmacaa
