/-
  The program's file of features, at every list.
-/
import Derived.Test.YtibcgimggcdllaaFiAp
import Derived.Test.YtibcgimggcdllaaFoP
namespace Go.Proofs.Ytibcgimggcdllaa
open Go.ChangeShapes Go.WideShapes Go.ChangeAt Go.RowKit
set_option linter.unusedVariables false
set_option linter.unusedSimpArgs false

/-- what FileBytes answers -/
def fbL (fs : List Ft) (c : Int) : List Int := if c = 0 then fileL fs else []
theorem prt_raw {wm X : World} {gv p0 o0 c0 p1 o1 c1 p2 o2 c2 p3 o3 c3 na nb nc nd : Nat} {A B C D : List Int} (hb : Below wm.heap.size wm X)
    (a : Bys wm p0 o0 A) (b : Bys wm p1 o1 B) (c : Bys wm p2 o2 C) (d : Bys wm p3 o3 D) (ea : A.length = na) (eb : B.length = nb) (ec : C.length = nc) (ed : D.length = nd) (la : 0 < na ∧ na ≤ 20000) (lb : 0 < nb ∧ nb ≤ 20000) (lc : 0 < nc ∧ nc ≤ 20000) (ld : 0 < nd ∧ nd ≤ 20000)
    (k0 : X.cell? ⟨gv, 0, none⟩ = some (.slice (some ⟨p0, o0, none⟩) na c0)) (k1 : X.cell? ⟨gv, 1, none⟩ = some (.slice (some ⟨p1, o1, none⟩) nb c1)) (k2 : X.cell? ⟨gv, 2, none⟩ = some (.slice (some ⟨p2, o2, none⟩) nc c2)) (k3 : X.cell? ⟨gv, 3, none⟩ = some (.slice (some ⟨p3, o3, none⟩) nd c3)) : Prt X gv [A, B, C, D] := by
  subst ea eb ec ed
  refine ⟨rfl, ?_⟩
  intro k L hL
  rcases k with _ | _ | _ | _ | k <;> simp at hL <;> subst hL
  · exact ⟨la.2, la.1, p0, o0, c0, k0, (a.bel hb).1, (a.bel hb).2⟩
  · exact ⟨lb.2, lb.1, p1, o1, c1, k1, (b.bel hb).1, (b.bel hb).2⟩
  · exact ⟨lc.2, lc.1, p2, o2, c2, k2, (c.bel hb).1, (c.bel hb).2⟩
  · exact ⟨ld.2, ld.1, p3, o3, c3, k3, (d.bel hb).1, (d.bel hb).2⟩
theorem prt_al {wm : World} {p0 c0 p1 c1 p2 c2 p3 c3 na nb nc nd : Nat} {A B C D : List Int}
    (a : Bys wm p0 0 A) (b : Bys wm p1 0 B) (c : Bys wm p2 0 C) (d : Bys wm p3 0 D) (ea : A.length = na) (eb : B.length = nb) (ec : C.length = nc) (ed : D.length = nd) (la : 0 < na ∧ na ≤ 20000) (lb : 0 < nb ∧ nb ≤ 20000) (lc : 0 < nc ∧ nc ≤ 20000) (ld : 0 < nd ∧ nd ≤ 20000) :
    Prt (wm.alloc (.cells #[.slice (some ⟨p0, 0, none⟩) na c0, .slice (some ⟨p1, 0, none⟩) nb c1, .slice (some ⟨p2, 0, none⟩) nc c2, .slice (some ⟨p3, 0, none⟩) nd c3] 22)) wm.heap.size [A, B, C, D] := by
  have h := vb_new wm 22 [.slice (some ⟨p0, 0, none⟩) na c0, .slice (some ⟨p1, 0, none⟩) nb c1, .slice (some ⟨p2, 0, none⟩) nc c2, .slice (some ⟨p3, 0, none⟩) nd c3] wm.heap.size rfl
  exact prt_raw (ba (Below.refl _ _) _) a b c d ea eb ec ed la lb lc ld (h.cell (m := 0) rfl) (h.cell (m := 1) rfl) (h.cell (m := 2) rfl) (h.cell (m := 3) rfl)
set_option maxRecDepth 100000 in
set_option maxHeartbeats 8000000 in
theorem fbP_any (u : Option Addr) (p po n cu : Nat) (fs : List Ft) (w : World) (hl : fs.length = n) (hn : n ≤ 1048576) (hs : ∀ f ∈ fs, f.nm.size ≤ maxLen ∧ f.on.size ≤ maxLen ∧ f.ov.size ≤ maxLen) (hu : SlG ftc 15 w u p po fs) :
    Calls Try.prog 12 #[.slice u n cu] w fun e w' => (∃ v c ab N, e = .returned (.tuple #[v, .int .i64 c]) ∧ Chk fs c ab ∧ Rb w' w.heap.size v N (fbL fs c)) ∧ Below w.heap.size w w' := by
  obtain ⟨iP, hi1, hy0, hy1, hy2⟩ := info_parts info5
  have HO := hide (orderOfP_any u p po n cu fs w hl hn hs hu)
  have HU := hide (fun X (hX : Below w.heap.size w X) => hu.bel hX)
  have HL := hide hl
  have HSZ := hide hs
  have n0 : (0 : Int) ≤ (n : Int) := Int.natCast_nonneg _
  clear hu hl hs
  go_enter Try.func12, Try.ntmps12
  go_wp2_with fail
  refine (unhide HO).mono ?_
  rintro e W1 ⟨⟨v1, c, v3, ab, rfl, hck, hr1, hr3⟩, hb1⟩
  have HB1 := hide hb1
  have HCK := hide hck
  clear hr1 hr3 hb1
  by_cases hc : c = 0
  rotate_left
  · have cz : (c != 0) = true := by simp [hc]
    have HFB : Hid (fbL fs c = []) := hide (if_neg hc)
    clear hck
    go_wp2_with fail
    refine bodyPost_ret (v := .tuple #[.slice none 0 0, .int .i64 c]) (by simp [results, Try.results12, go_sem]) rfl ⟨⟨_, c, ab, 0, rfl, unhide HCK, ?_⟩, unhide HB1⟩
    rw [unhide HFB]
    exact own_nil _ _ _ _
  subst hc
  obtain ⟨hfine, rfl⟩ := hck.zero
  have HFR : Hid (∀ f ∈ fs, Frs f) := hide (fun f hf => frs_of (hfine.right f hf))
  have hn30 : n ≤ 30 := by rw [← unhide HL]; exact hfine.len
  have cz : ((0 : Int) != 0) = false := by simp
  clear hck hfine
  have HV1 := hide (head_new W1)
  have HB2 := hide (ba (unhide HB1) (.cells #[.int .u8 80, .int .u8 65, .int .u8 82, .int .u8 84, .int .u8 1] 5 (5, 6)))
  have hsz1 := (unhide HB1).size
  have hcv := Lib.run_convert_bytes_const (P := Try.prog) W1 22 5 #[.int .u8 80, .int .u8 65, .int .u8 82, .int .u8 84, .int .u8 1] 5 5 Try.underlying22 Try.underlying5
  go_wp2_with fail
  clear hcv
  go_loopw [7, 25] (fun v s W => ∃ (i N : Nat), s = .int .i64 (i : Int) ∧ i ≤ n ∧ Fb W w.heap.size v N (headL ++ recs (fs.take i)) ∧ Below w.heap.size w W) (fun _ s _ => n - (intOf s).toNat)
  case atStart => exact ⟨0, 5, rfl, Nat.zero_le _, .inr ⟨W1.heap.size, rfl, by simpa [recs] using unhide HV1, by simp [recs, headL]⟩, unhide HB2⟩
  case round =>
    clear HV1 HB2
    obtain ⟨i, N, rfl, hi, hfb, hw⟩ := hrel
    have HFB := hide hfb
    have HW := hide hw
    have hsz := hw.size
    have hlen := hfb.len
    rw [List.length_append] at hlen
    have hNN : N ≠ 0 ∧ N ≤ 10000 := by
      have := recs_len (fs := fs.take i) (fun f hf => unhide HFR f (List.mem_of_mem_take hf))
      have h2 : (fs.take i).length ≤ 30 := by rw [List.length_take, unhide HL]; omega
      have h3 : headL.length = 5 := rfl
      omega
    obtain ⟨g0, c0, rfl, hby0⟩ := hfb.form hNN.1
    have HNL := hide hlen
    have i0 : (0 : Int) ≤ (i : Int) := Int.natCast_nonneg _
    clear hlen hfb
    by_cases h : i < n
    · have i1 : (i : Int) < (n : Int) := by omega
      have iz : decide ((i : Int) < (n : Int)) = true := decide_eq_true i1
      obtain ⟨f, hx⟩ := get_some (unhide HL) h
      obtain ⟨rfl, k0, k1, k2, k3, k4, k5, k6, k7, k8, k9, k10, k11, k12, k13, k14⟩ := (unhide HU _ hw).at15 hx
      have hmem := List.mem_of_getElem? hx
      have HFS := hide (unhide HFR f hmem)
      have HBO := hide (fun X => body_any f X (unhide HFS) (unhide HSZ f hmem))
      unfold ftv at HBO
      have HRT := hide (recs_take hx)
      have hbl := (unhide HFS).len
      have HBY := hide (unhide HFS).byt
      have HSU := hide (fun g c X (hX : Bys X g 0 (bodL f)) => sumP_any (some ⟨g, 0, none⟩) g 0 (bodL f).length c (bodL f) X rfl (by omega) hX.slG (unhide HBY))
      have HMK := hide (fun X => mark_any 82 ((bodL f).length : Int) X (by omega) (by omega))
      have HB0 := hide hby0
      have HRL : Hid (recL f = [82] ++ two (bodL f).length ++ bodL f ++ [(sumS (bodL f)).2, (sumS (bodL f)).1]) := hide rfl
      have HSV : Hid (sumV (bodL f) = .agg #[.int .u8 (sumS (bodL f)).2, .int .u8 (sumS (bodL f)).1]) := hide rfl
      clear hx hw hmem HFS hby0
      have alo := ba (Below.refl wr.heap.size wr) (.cells #[.string f.nm, .string f.on, .string f.ov, .int .i64 f.kd, .int .i64 f.sd, .int .i64 f.x0, .int .i64 f.y0, .int .i64 f.z0, .int .i64 f.x1, .int .i64 f.y1, .int .i64 f.z1, .int .i64 f.ct, .int .i64 f.dx, .int .i64 f.dy, .int .i64 f.dz] 53)
      have HA0 := hide alo
      clear alo
      go_wp2_with fail
      clear k0 k1 k2 k3 k4 k5 k6 k7 k8 k9 k10 k11 k12 k13 k14
      refine (unhide HBO _).mono ?_
      rintro e Wb ⟨⟨gb, cb, rfl, hrb⟩, hbb⟩
      have hbw := bc (unhide HA0) hbb
      have HWb := hide (bc (unhide HW) hbw)
      have HBb := hide ((unhide HB0).bel hbw)
      have HRb := hide (hrb.bys (by omega))
      clear hbb hbw hrb HA0 HB0
      generalize hbl9 : (bodL f).length = nb at *
      have HNB := hide hbl9
      clear hbl9
      go_wp2_with fail
      refine (unhide HSU _ _ _ (unhide HRb)).mono ?_
      rintro e Ws ⟨rfl, hbs⟩
      rw [unhide HSV]
      have HWs := hide (bc (unhide HWb) hbs)
      have HBs := hide ((unhide HBb).bel hbs)
      have HRs := hide ((unhide HRb).bel hbs)
      clear hbs HWb HBb HRb HBO HSU
      generalize hs2 : (sumS (bodL f)).2 = s2 at *
      generalize hs1 : (sumS (bodL f)).1 = s1 at *
      clear hs2 hs1
      have alo := ba (Below.refl Ws.heap.size Ws) (.cells #[.int .u8 s2, .int .u8 s1] 38)
      have HWd := hide (bc (unhide HWs) alo)
      have HBd := hide ((unhide HBs).bel alo)
      have HRd := hide ((unhide HRs).bel alo)
      have HSd : Hid (Bys (Ws.alloc (.cells #[.int .u8 s2, .int .u8 s1] 38)) Ws.heap.size 0 [s2, s1]) := hide (vb.bys (vb_new Ws 38 (byL [s2, s1]) Ws.heap.size rfl))
      clear alo HWs HBs HRs
      go_wp2_with fail
      have HFL : Hid ([headL ++ recs (fs.take i), [82] ++ two (nb : Int), bodL f, [s2, s1]].flatten = headL ++ recs (fs.take (i + 1))) := hide (by
        rw [unhide HRT, unhide HRL]
        simp)
      obtain ⟨FL, hFL⟩ : ∃ FL, headL ++ recs (fs.take (i + 1)) = FL := ⟨_, rfl⟩
      rw [hFL] at HFL
      have HFX := hide hFL
      clear hFL
      have HCC := hide (fun gv X (hX : Prt X gv [headL ++ recs (fs.take i), [82] ++ two (nb : Int), bodL f, [s2, s1]]) => concat_any gv 4 _ X hX _ (unhide HFL))
      have HLN : Hid ((headL ++ recs (fs.take i)).length = N) := hide (by rw [List.length_append]; exact unhide HNL)
      generalize Ws.alloc (.cells #[.int .u8 s2, .int .u8 s1] 38) = Wd at *
      generalize Ws.heap.size = ga at *
      have HL3 : Hid (([82] ++ two (nb : Int)).length = 3) := hide rfl
      have HL2 : Hid (([s2, s1] : List Int).length = 2) := hide rfl
      have HQ0 : Hid (0 < N ∧ N ≤ 20000) := hide (by omega)
      have HQ1 : Hid (0 < 3 ∧ 3 ≤ 20000) := hide (by omega)
      have HQ2 : Hid (0 < nb ∧ nb ≤ 20000) := hide (by omega)
      have HQ3 : Hid (0 < 2 ∧ 2 ≤ 20000) := hide (by omega)
      go_region_with (first
        | (go_at_call 28; refine (unhide HMK _).mono ?_; rintro e wm ⟨⟨gm, rfl, hgm, hvm⟩, hbm⟩; have hbx := (show Below Wd.heap.size Wd wm from bc (by repeat (first | exact Below.refl _ _ | refine Below.drew ?_)) hbm); have HVM := hide (vb.bys hvm); have HBX := hide hbx; have HWM := hide (bc (unhide HWd) hbx); have HBm := hide ((unhide HBd).bel hbx); have HRm := hide ((unhide HRd).bel hbx); have HSm := hide ((unhide HSd).bel hbx); clear hbm hbx hvm hgm)
        | (go_at_call 27; refine (unhide HCC _ _ (by first | exact prt_al (unhide HBm) (unhide HVM) (unhide HRm) (unhide HSm) (unhide HLN) (unhide HL3) (unhide HNB) (unhide HL2) (unhide HQ0) (unhide HQ1) (unhide HQ2) (unhide HQ3) | exact prt_al (wm := wm.drew) (unhide HBm) (unhide HVM) (unhide HRm) (unhide HSm) (unhide HLN) (unhide HL3) (unhide HNB) (unhide HL2) (unhide HQ0) (unhide HQ1) (unhide HQ2) (unhide HQ3))).mono ?_; rintro e wc ⟨⟨gc, cc, rfl, hrc⟩, hbc⟩; have HBC := hide (show Below w.heap.size w wc from bc (bc (unhide HWM) (by repeat (first | exact Below.refl _ _ | refine ba ?_ _ | refine Below.drew ?_))) hbc); have HRC := hide (hrc.mono (show w.heap.size ≤ _ by first | exact (bc (unhide HWM) (by repeat (first | exact Below.refl _ _ | refine ba ?_ _ | refine Below.drew ?_))).size)); clear hbc hrc))
      all_goals
        go_wp2_with fail
        go_roundw
        case rel => exact ⟨i + 1, FL.length, by simp, h, .inl (by rw [unhide HFX]; exact unhide HRC), unhide HBC⟩
        case measure => simp only [intOf]; omega
    · have i1 : ¬ (i : Int) < (n : Int) := by omega
      have iz : decide ((i : Int) < (n : Int)) = false := decide_eq_false i1
      have en : i = n := by omega
      subst en
      have HMK := hide (fun X => mark_any 69 (i : Int) X (by omega) (by omega))
      have HFE : Hid (headL ++ recs (fs.take i) ++ ([69] ++ two (i : Int)) = fbL fs 0) := hide (by
        have e1 : fs.take i = fs := List.take_of_length_le (by rw [unhide HL]; omega)
        rw [e1]
        unfold fbL fileL
        rw [if_pos rfl, unhide HL])
      clear hw hby0
      go_wp2_with fail
      refine (unhide HMK _).mono ?_
      rintro e Wm ⟨⟨gm, rfl, hgm, hvm⟩, hbm⟩
      have HFm := hide ((unhide HFB).bel hbm)
      have HWm := hide (bc (unhide HW) hbm)
      have HVM := hide (vb.bys hvm)
      have hszm := (bc (unhide HW) hbm).size
      clear hbm hvm hgm
      go_wp2_with (at_builtin; refine unhide ?_)
      refine hide ?_
      refine wpl_append_fb _ rfl _ _ rfl w.heap.size _ N _ rfl (unhide HFm) hNN.1 gm 0 3 3 ([69] ++ two (i : Int)) rfl rfl (by omega) (unhide HVM) (by omega) hszm ?_
      intro v' w1 hr9 hb9
      rw [unhide HFE] at hr9
      have HR9 := hide hr9
      have HB9 := hide ((unhide HWm).trans hb9)
      obtain ⟨u9, c9, rfl, _⟩ := own_form hr9
      clear hr9 hb9
      go_wp2_with fail
      refine bodyPost_ret (v := .tuple #[.slice u9 (N + 3) c9, .int .i64 0]) (by simp [results, Try.results12, go_sem]) rfl ⟨⟨_, 0, [], _, rfl, unhide HCK, unhide HR9⟩, unhide HB9⟩
end Go.Proofs.Ytibcgimggcdllaa
