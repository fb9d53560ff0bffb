/-
  The program's file of features, at every list. The model's file of features, at every list. What the laws ask of rows of bytes of one's own: that one is written over, that it is held. What the laws ask of rows of features: that two are the same, that one is made of another, how much there is of it. What the laws ask of rows of features: that one is made of another, how much there is of it. What the laws ask of rows of features: how much there is of it. The laws' own mark of a text: the letter m and the digits of a number. The laws' own marks on rows of features. A slice of features that came in, opened. The program's FileBytes answers as the model at every list of features; it changes none of them, and its answer owns its memory.
-/
import Derived.Test.YtibcgimggcdllaaFiAp
import Derived.Test.YtibcgimggcdllaaFoP
import Derived.Test.YtibcgimggcdllaaFiRe
import Derived.Test.YtibcgimggcdllaaCkM
import Derived.Test.YtibcgimggcdllaaGen
import Derived.Laws.BytesString
import Derived.Deep.Slices
import Derived.ChangeSame
import Derived.Test.YtibcgimggcdllaaChecked
import Derived.Test.YtibcgimggcdllaaRows
import Derived.ChangeOld
import Derived.Lib.SmallJoins
namespace Go.Proofs.Ytibcgimggcdllaa
open Go.ChangeShapes Go.WideShapes Go.ChangeAt Go.RowKit
set_option linter.unusedVariables false
set_option linter.unusedSimpArgs false

/-- what FileBytes answers -/
def fbL (fs : List Ft) (c : Int) : List Int := if c = 0 then fileL fs else []
theorem prt_raw {wm X : World} {gv p0 o0 c0 p1 o1 c1 p2 o2 c2 p3 o3 c3 na nb nc nd : Nat} {A B C D : List Int} (hb : Below wm.heap.size wm X)
    (a : Bys wm p0 o0 A) (b : Bys wm p1 o1 B) (c : Bys wm p2 o2 C) (d : Bys wm p3 o3 D) (ea : A.length = na) (eb : B.length = nb) (ec : C.length = nc) (ed : D.length = nd) (la : 0 < na ∧ na ≤ 20000) (lb : 0 < nb ∧ nb ≤ 20000) (lc : 0 < nc ∧ nc ≤ 20000) (ld : 0 < nd ∧ nd ≤ 20000)
    (k0 : X.cell? ⟨gv, 0, none⟩ = some (.slice (some ⟨p0, o0, none⟩) na c0)) (k1 : X.cell? ⟨gv, 1, none⟩ = some (.slice (some ⟨p1, o1, none⟩) nb c1)) (k2 : X.cell? ⟨gv, 2, none⟩ = some (.slice (some ⟨p2, o2, none⟩) nc c2)) (k3 : X.cell? ⟨gv, 3, none⟩ = some (.slice (some ⟨p3, o3, none⟩) nd c3)) : Prt X gv [A, B, C, D] := by
  subst ea eb ec ed
  refine ⟨rfl, ?_⟩
  intro k L hL
  rcases k with _ | _ | _ | _ | k <;> simp at hL <;> subst hL
  · exact ⟨la.2, la.1, p0, o0, c0, k0, (a.bel hb).1, (a.bel hb).2⟩
  · exact ⟨lb.2, lb.1, p1, o1, c1, k1, (b.bel hb).1, (b.bel hb).2⟩
  · exact ⟨lc.2, lc.1, p2, o2, c2, k2, (c.bel hb).1, (c.bel hb).2⟩
  · exact ⟨ld.2, ld.1, p3, o3, c3, k3, (d.bel hb).1, (d.bel hb).2⟩
theorem prt_al {wm : World} {p0 c0 p1 c1 p2 c2 p3 c3 na nb nc nd : Nat} {A B C D : List Int}
    (a : Bys wm p0 0 A) (b : Bys wm p1 0 B) (c : Bys wm p2 0 C) (d : Bys wm p3 0 D) (ea : A.length = na) (eb : B.length = nb) (ec : C.length = nc) (ed : D.length = nd) (la : 0 < na ∧ na ≤ 20000) (lb : 0 < nb ∧ nb ≤ 20000) (lc : 0 < nc ∧ nc ≤ 20000) (ld : 0 < nd ∧ nd ≤ 20000) :
    Prt (wm.alloc (.cells #[.slice (some ⟨p0, 0, none⟩) na c0, .slice (some ⟨p1, 0, none⟩) nb c1, .slice (some ⟨p2, 0, none⟩) nc c2, .slice (some ⟨p3, 0, none⟩) nd c3] 22)) wm.heap.size [A, B, C, D] := by
  have h := vb_new wm 22 [.slice (some ⟨p0, 0, none⟩) na c0, .slice (some ⟨p1, 0, none⟩) nb c1, .slice (some ⟨p2, 0, none⟩) nc c2, .slice (some ⟨p3, 0, none⟩) nd c3] wm.heap.size rfl
  exact prt_raw (ba (Below.refl _ _) _) a b c d ea eb ec ed la lb lc ld (h.cell (m := 0) rfl) (h.cell (m := 1) rfl) (h.cell (m := 2) rfl) (h.cell (m := 3) rfl)
set_option maxRecDepth 100000 in
set_option maxHeartbeats 8000000 in
theorem fbP_any (u : Option Addr) (p po n cu : Nat) (fs : List Ft) (w : World) (hl : fs.length = n) (hn : n ≤ 1048576) (hs : ∀ f ∈ fs, f.nm.size ≤ maxLen ∧ f.on.size ≤ maxLen ∧ f.ov.size ≤ maxLen) (hu : SlG ftc 15 w u p po fs) :
    Calls Try.prog 12 #[.slice u n cu] w fun e w' => (∃ v c ab N, e = .returned (.tuple #[v, .int .i64 c]) ∧ Chk fs c ab ∧ Rb w' w.heap.size v N (fbL fs c)) ∧ Below w.heap.size w w' := by
  obtain ⟨iP, hi1, hy0, hy1, hy2⟩ := info_parts info5
  have HO := hide (orderOfP_any u p po n cu fs w hl hn hs hu)
  have HU := hide (fun X (hX : Below w.heap.size w X) => hu.bel hX)
  have HL := hide hl
  have HSZ := hide hs
  have n0 : (0 : Int) ≤ (n : Int) := Int.natCast_nonneg _
  clear hu hl hs
  go_enter Try.func12, Try.ntmps12
  go_wp2_with fail
  refine (unhide HO).mono ?_
  rintro e W1 ⟨⟨v1, c, v3, ab, rfl, hck, hr1, hr3⟩, hb1⟩
  have HB1 := hide hb1
  have HCK := hide hck
  clear hr1 hr3 hb1
  by_cases hc : c = 0
  rotate_left
  · have cz : (c != 0) = true := by simp [hc]
    have HFB : Hid (fbL fs c = []) := hide (if_neg hc)
    clear hck
    go_wp2_with fail
    refine bodyPost_ret (v := .tuple #[.slice none 0 0, .int .i64 c]) (by simp [results, Try.results12, go_sem]) rfl ⟨⟨_, c, ab, 0, rfl, unhide HCK, ?_⟩, unhide HB1⟩
    rw [unhide HFB]
    exact own_nil _ _ _ _
  subst hc
  obtain ⟨hfine, rfl⟩ := hck.zero
  have HFR : Hid (∀ f ∈ fs, Frs f) := hide (fun f hf => frs_of (hfine.right f hf))
  have hn30 : n ≤ 30 := by rw [← unhide HL]; exact hfine.len
  have cz : ((0 : Int) != 0) = false := by simp
  clear hck hfine
  have HV1 := hide (head_new W1)
  have HB2 := hide (ba (unhide HB1) (.cells #[.int .u8 80, .int .u8 65, .int .u8 82, .int .u8 84, .int .u8 1] 5 (5, 6)))
  have hsz1 := (unhide HB1).size
  have hcv := Lib.run_convert_bytes_const (P := Try.prog) W1 22 5 #[.int .u8 80, .int .u8 65, .int .u8 82, .int .u8 84, .int .u8 1] 5 5 Try.underlying22 Try.underlying5
  go_wp2_with fail
  clear hcv
  go_loopw [7, 25] (fun v s W => ∃ (i N : Nat), s = .int .i64 (i : Int) ∧ i ≤ n ∧ Fb W w.heap.size v N (headL ++ recs (fs.take i)) ∧ Below w.heap.size w W) (fun _ s _ => n - (intOf s).toNat)
  case atStart => exact ⟨0, 5, rfl, Nat.zero_le _, .inr ⟨W1.heap.size, rfl, by simpa [recs] using unhide HV1, by simp [recs, headL]⟩, unhide HB2⟩
  case round =>
    clear HV1 HB2
    obtain ⟨i, N, rfl, hi, hfb, hw⟩ := hrel
    have HFB := hide hfb
    have HW := hide hw
    have hsz := hw.size
    have hlen := hfb.len
    rw [List.length_append] at hlen
    have hNN : N ≠ 0 ∧ N ≤ 10000 := by
      have := recs_len (fs := fs.take i) (fun f hf => unhide HFR f (List.mem_of_mem_take hf))
      have h2 : (fs.take i).length ≤ 30 := by rw [List.length_take, unhide HL]; omega
      have h3 : headL.length = 5 := rfl
      omega
    obtain ⟨g0, c0, rfl, hby0⟩ := hfb.form hNN.1
    have HNL := hide hlen
    have i0 : (0 : Int) ≤ (i : Int) := Int.natCast_nonneg _
    clear hlen hfb
    by_cases h : i < n
    · have i1 : (i : Int) < (n : Int) := by omega
      have iz : decide ((i : Int) < (n : Int)) = true := decide_eq_true i1
      obtain ⟨f, hx⟩ := get_some (unhide HL) h
      obtain ⟨rfl, k0, k1, k2, k3, k4, k5, k6, k7, k8, k9, k10, k11, k12, k13, k14⟩ := (unhide HU _ hw).at15 hx
      have hmem := List.mem_of_getElem? hx
      have HFS := hide (unhide HFR f hmem)
      have HBO := hide (fun X => body_any f X (unhide HFS) (unhide HSZ f hmem))
      unfold ftv at HBO
      have HRT := hide (recs_take hx)
      have hbl := (unhide HFS).len
      have HBY := hide (unhide HFS).byt
      have HSU := hide (fun g c X (hX : Bys X g 0 (bodL f)) => sumP_any (some ⟨g, 0, none⟩) g 0 (bodL f).length c (bodL f) X rfl (by omega) hX.slG (unhide HBY))
      have HMK := hide (fun X => mark_any 82 ((bodL f).length : Int) X (by omega) (by omega))
      have HB0 := hide hby0
      have HRL : Hid (recL f = [82] ++ two (bodL f).length ++ bodL f ++ [(sumS (bodL f)).2, (sumS (bodL f)).1]) := hide rfl
      have HSV : Hid (sumV (bodL f) = .agg #[.int .u8 (sumS (bodL f)).2, .int .u8 (sumS (bodL f)).1]) := hide rfl
      clear hx hw hmem HFS hby0
      have alo := ba (Below.refl wr.heap.size wr) (.cells #[.string f.nm, .string f.on, .string f.ov, .int .i64 f.kd, .int .i64 f.sd, .int .i64 f.x0, .int .i64 f.y0, .int .i64 f.z0, .int .i64 f.x1, .int .i64 f.y1, .int .i64 f.z1, .int .i64 f.ct, .int .i64 f.dx, .int .i64 f.dy, .int .i64 f.dz] 53)
      have HA0 := hide alo
      clear alo
      go_wp2_with fail
      clear k0 k1 k2 k3 k4 k5 k6 k7 k8 k9 k10 k11 k12 k13 k14
      refine (unhide HBO _).mono ?_
      rintro e Wb ⟨⟨gb, cb, rfl, hrb⟩, hbb⟩
      have hbw := bc (unhide HA0) hbb
      have HWb := hide (bc (unhide HW) hbw)
      have HBb := hide ((unhide HB0).bel hbw)
      have HRb := hide (hrb.bys (by omega))
      clear hbb hbw hrb HA0 HB0
      generalize hbl9 : (bodL f).length = nb at *
      have HNB := hide hbl9
      clear hbl9
      go_wp2_with fail
      refine (unhide HSU _ _ _ (unhide HRb)).mono ?_
      rintro e Ws ⟨rfl, hbs⟩
      rw [unhide HSV]
      have HWs := hide (bc (unhide HWb) hbs)
      have HBs := hide ((unhide HBb).bel hbs)
      have HRs := hide ((unhide HRb).bel hbs)
      clear hbs HWb HBb HRb HBO HSU
      generalize hs2 : (sumS (bodL f)).2 = s2 at *
      generalize hs1 : (sumS (bodL f)).1 = s1 at *
      clear hs2 hs1
      have alo := ba (Below.refl Ws.heap.size Ws) (.cells #[.int .u8 s2, .int .u8 s1] 38)
      have HWd := hide (bc (unhide HWs) alo)
      have HBd := hide ((unhide HBs).bel alo)
      have HRd := hide ((unhide HRs).bel alo)
      have HSd : Hid (Bys (Ws.alloc (.cells #[.int .u8 s2, .int .u8 s1] 38)) Ws.heap.size 0 [s2, s1]) := hide (vb.bys (vb_new Ws 38 (byL [s2, s1]) Ws.heap.size rfl))
      clear alo HWs HBs HRs
      go_wp2_with fail
      have HFL : Hid ([headL ++ recs (fs.take i), [82] ++ two (nb : Int), bodL f, [s2, s1]].flatten = headL ++ recs (fs.take (i + 1))) := hide (by
        rw [unhide HRT, unhide HRL]
        simp)
      obtain ⟨FL, hFL⟩ : ∃ FL, headL ++ recs (fs.take (i + 1)) = FL := ⟨_, rfl⟩
      rw [hFL] at HFL
      have HFX := hide hFL
      clear hFL
      have HCC := hide (fun gv X (hX : Prt X gv [headL ++ recs (fs.take i), [82] ++ two (nb : Int), bodL f, [s2, s1]]) => concat_any gv 4 _ X hX _ (unhide HFL))
      have HLN : Hid ((headL ++ recs (fs.take i)).length = N) := hide (by rw [List.length_append]; exact unhide HNL)
      generalize Ws.alloc (.cells #[.int .u8 s2, .int .u8 s1] 38) = Wd at *
      generalize Ws.heap.size = ga at *
      have HL3 : Hid (([82] ++ two (nb : Int)).length = 3) := hide rfl
      have HL2 : Hid (([s2, s1] : List Int).length = 2) := hide rfl
      have HQ0 : Hid (0 < N ∧ N ≤ 20000) := hide (by omega)
      have HQ1 : Hid (0 < 3 ∧ 3 ≤ 20000) := hide (by omega)
      have HQ2 : Hid (0 < nb ∧ nb ≤ 20000) := hide (by omega)
      have HQ3 : Hid (0 < 2 ∧ 2 ≤ 20000) := hide (by omega)
      go_region_with (first
        | (go_at_call 28; refine (unhide HMK _).mono ?_; rintro e wm ⟨⟨gm, rfl, hgm, hvm⟩, hbm⟩; have hbx := (show Below Wd.heap.size Wd wm from bc (by repeat (first | exact Below.refl _ _ | refine Below.drew ?_)) hbm); have HVM := hide (vb.bys hvm); have HBX := hide hbx; have HWM := hide (bc (unhide HWd) hbx); have HBm := hide ((unhide HBd).bel hbx); have HRm := hide ((unhide HRd).bel hbx); have HSm := hide ((unhide HSd).bel hbx); clear hbm hbx hvm hgm)
        | (go_at_call 27; refine (unhide HCC _ _ (by first | exact prt_al (unhide HBm) (unhide HVM) (unhide HRm) (unhide HSm) (unhide HLN) (unhide HL3) (unhide HNB) (unhide HL2) (unhide HQ0) (unhide HQ1) (unhide HQ2) (unhide HQ3) | exact prt_al (wm := wm.drew) (unhide HBm) (unhide HVM) (unhide HRm) (unhide HSm) (unhide HLN) (unhide HL3) (unhide HNB) (unhide HL2) (unhide HQ0) (unhide HQ1) (unhide HQ2) (unhide HQ3))).mono ?_; rintro e wc ⟨⟨gc, cc, rfl, hrc⟩, hbc⟩; have HBC := hide (show Below w.heap.size w wc from bc (bc (unhide HWM) (by repeat (first | exact Below.refl _ _ | refine ba ?_ _ | refine Below.drew ?_))) hbc); have HRC := hide (hrc.mono (show w.heap.size ≤ _ by first | exact (bc (unhide HWM) (by repeat (first | exact Below.refl _ _ | refine ba ?_ _ | refine Below.drew ?_))).size)); clear hbc hrc))
      all_goals
        go_wp2_with fail
        go_roundw
        case rel => exact ⟨i + 1, FL.length, by simp, h, .inl (by rw [unhide HFX]; exact unhide HRC), unhide HBC⟩
        case measure => simp only [intOf]; omega
    · have i1 : ¬ (i : Int) < (n : Int) := by omega
      have iz : decide ((i : Int) < (n : Int)) = false := decide_eq_false i1
      have en : i = n := by omega
      subst en
      have HMK := hide (fun X => mark_any 69 (i : Int) X (by omega) (by omega))
      have HFE : Hid (headL ++ recs (fs.take i) ++ ([69] ++ two (i : Int)) = fbL fs 0) := hide (by
        have e1 : fs.take i = fs := List.take_of_length_le (by rw [unhide HL]; omega)
        rw [e1]
        unfold fbL fileL
        rw [if_pos rfl, unhide HL])
      clear hw hby0
      go_wp2_with fail
      refine (unhide HMK _).mono ?_
      rintro e Wm ⟨⟨gm, rfl, hgm, hvm⟩, hbm⟩
      have HFm := hide ((unhide HFB).bel hbm)
      have HWm := hide (bc (unhide HW) hbm)
      have HVM := hide (vb.bys hvm)
      have hszm := (bc (unhide HW) hbm).size
      clear hbm hvm hgm
      go_wp2_with (at_builtin; refine unhide ?_)
      refine hide ?_
      refine wpl_append_fb _ rfl _ _ rfl w.heap.size _ N _ rfl (unhide HFm) hNN.1 gm 0 3 3 ([69] ++ two (i : Int)) rfl rfl (by omega) (unhide HVM) (by omega) hszm ?_
      intro v' w1 hr9 hb9
      rw [unhide HFE] at hr9
      have HR9 := hide hr9
      have HB9 := hide ((unhide HWm).trans hb9)
      obtain ⟨u9, c9, rfl, _⟩ := own_form hr9
      clear hr9 hb9
      go_wp2_with fail
      refine bodyPost_ret (v := .tuple #[.slice u9 (N + 3) c9, .int .i64 0]) (by simp [results, Try.results12, go_sem]) rfl ⟨⟨_, 0, [], _, rfl, unhide HCK, unhide HR9⟩, unhide HB9⟩
end Go.Proofs.Ytibcgimggcdllaa

namespace Go.Proofs.Ytibcgimggcdllaa
open Go.ChangeShapes Go.WideShapes Go.ChangeAt Go.RowKit
set_option linter.unusedVariables false
set_option linter.unusedSimpArgs false

theorem nm_pos {f : Ft} (h : ftr f = true) : 0 < f.nm.size := by
  unfold ftr at h
  simp only [Bool.and_eq_true] at h
  have := h.1.1.1
  unfold nameB at this
  rw [decide_eq_true_eq] at this
  exact this.1
set_option maxRecDepth 100000 in
set_option maxHeartbeats 8000000 in
theorem fbM_any (u : Option Addr) (p po n cu : Nat) (fs : List Ft) (w : World) (hl : fs.length = n) (hn : n ≤ 1048576) (hcu : n ≤ cu) (hs : ∀ f ∈ fs, f.nm.size ≤ maxLen ∧ f.on.size ≤ maxLen ∧ f.ov.size ≤ maxLen) (hu : SlG ftc 15 w u p po fs) :
    Calls Try.prog 10 #[.slice u n cu] w fun e w' => (∃ v c ab N, e = .returned (.tuple #[v, .int .i64 c]) ∧ Chk fs c ab ∧ Rb w' w.heap.size v N (fbL fs c)) ∧ Below w.heap.size w w' := by
  have HO := hide (checkM_any u p po n cu fs w hl hn hcu hs hu)
  have HU := hide (fun X (hX : Below w.heap.size w X) => hu.bel hX)
  have HL := hide hl
  have n0 : (0 : Int) ≤ (n : Int) := Int.natCast_nonneg _
  clear hu hl hs
  go_enter Try.func10, Try.ntmps10
  go_wp2_with fail
  refine (unhide HO).mono ?_
  rintro e W1 ⟨⟨v1, c, v3, ab, rfl, hck, hr1, hr3⟩, hb1⟩
  have HB1 := hide hb1
  have HCK := hide hck
  clear hr1 hr3 hb1
  by_cases hc : c = 0
  rotate_left
  · have cz : (c != 0) = true := by simp [hc]
    have HFB : Hid (fbL fs c = []) := hide (if_neg hc)
    have HBB := hide (ba (unhide HB1) (.cells #[] 5))
    have hszq := (unhide HB1).size
    clear hck
    go_wp2_with fail
    refine bodyPost_ret (v := .tuple #[.slice (some ⟨W1.heap.size, 0, none⟩) 0 0, .int .i64 c]) (by simp [results, Try.results10, go_sem]) rfl ⟨⟨_, c, ab, 0, rfl, unhide HCK, ?_⟩, unhide HBB⟩
    rw [unhide HFB]
    exact own_made W1 5 w.heap.size 1 hszq _ rfl
  subst hc
  obtain ⟨hfine, rfl⟩ := hck.zero
  have HFR : Hid (∀ f ∈ fs, Frs f) := hide (fun f hf => frs_of (hfine.right f hf))
  have HNP : Hid (∀ f ∈ fs, 0 < f.nm.size) := hide (fun f hf => nm_pos (hfine.right f hf))
  have hn30 : n ≤ 30 := by rw [← unhide HL]; exact hfine.len
  have cz : ((0 : Int) != 0) = false := by simp
  clear hck hfine
  have HV1 := hide (head_new W1)
  have HB2 := hide (ba (unhide HB1) (.cells #[.int .u8 80, .int .u8 65, .int .u8 82, .int .u8 84, .int .u8 1] 5 (5, 6)))
  have hsz1 := (unhide HB1).size
  have hcv := Lib.run_convert_bytes_const (P := Try.prog) W1 22 5 #[.int .u8 80, .int .u8 65, .int .u8 82, .int .u8 84, .int .u8 1] 5 5 Try.underlying22 Try.underlying5
  go_wp2_with fail
  clear hcv
  go_loopw [7, 8] (fun v s W => ∃ (i N : Nat), s = .int .i64 (i : Int) ∧ i ≤ n ∧ Fb W w.heap.size v N (headL ++ recs (fs.take i)) ∧ Below w.heap.size w W) (fun _ s _ => n - (intOf s).toNat)
  case atStart => exact ⟨0, 5, rfl, Nat.zero_le _, .inr ⟨W1.heap.size, rfl, by simpa [recs] using unhide HV1, by simp [recs, headL]⟩, unhide HB2⟩
  case round =>
    clear HV1 HB2
    obtain ⟨i, N, rfl, hi, hfb, hw⟩ := hrel
    have HFB := hide hfb
    have HW := hide hw
    have hsz := hw.size
    have hlen := hfb.len
    rw [List.length_append] at hlen
    have hNN : N ≠ 0 ∧ N ≤ 10000 := by
      have := recs_len (fs := fs.take i) (fun f hf => unhide HFR f (List.mem_of_mem_take hf))
      have h2 : (fs.take i).length ≤ 30 := by rw [List.length_take, unhide HL]; omega
      have h3 : headL.length = 5 := rfl
      omega
    obtain ⟨g0, c0, rfl, hby0⟩ := hfb.form hNN.1
    have i0 : (0 : Int) ≤ (i : Int) := Int.natCast_nonneg _
    clear hlen hfb hby0
    by_cases h : i < n
    · have i1 : (i : Int) < (n : Int) := by omega
      have iz : decide ((i : Int) < (n : Int)) = true := decide_eq_true i1
      obtain ⟨f, hx⟩ := get_some (unhide HL) h
      obtain ⟨rfl, k0, k1, k2, k3, k4, k5, k6, k7, k8, k9, k10, k11, k12, k13, k14⟩ := (unhide HU _ hw).at15 hx
      have hmem := List.mem_of_getElem? hx
      have HRE := hide (fun X => rec_any f X (unhide HFR f hmem) (unhide HNP f hmem))
      unfold ftv at HRE
      have HRT := hide (recs_take hx)
      have hrl := recL_len (unhide HFR f hmem)
      obtain ⟨rl, hrl0⟩ : ∃ rl, recL f = rl := ⟨_, rfl⟩
      rw [hrl0] at HRE HRT hrl
      have hrp : 0 < rl.length := by rw [← hrl0]; simp [recL]
      obtain ⟨nr, hnr⟩ : ∃ nr, rl.length = nr := ⟨_, rfl⟩
      rw [hnr] at HRE hrl hrp
      have HNR := hide hnr
      clear hx hw hmem hrl0 hnr
      go_wp2_with fail
      clear k0 k1 k2 k3 k4 k5 k6 k7 k8 k9 k10 k11 k12 k13 k14
      refine (unhide HRE _).mono ?_
      rintro e Wb ⟨⟨gb, cb, rfl, hrb⟩, hbb⟩
      have HFb := hide ((unhide HFB).bel hbb)
      have HWb := hide (bc (unhide HW) hbb)
      have HBb := hide (hrb.bys (by omega))
      have hszb := (bc (unhide HW) hbb).size
      clear hbb hrb
      go_wp2_with (at_builtin; refine unhide ?_)
      refine hide ?_
      refine wpl_append_fb _ rfl _ _ rfl w.heap.size _ N _ rfl (unhide HFb) hNN.1 gb 0 nr cb rl rfl (unhide HNR) hrp (unhide HBb) (by omega) hszb ?_
      intro v9 W9 hr9 hb9
      rw [List.append_assoc, ← unhide HRT] at hr9
      have HR9 := hide hr9
      have HB9 := hide ((unhide HWb).trans hb9)
      clear hr9 hb9
      go_wp2_with fail
      go_roundw
      case rel => exact ⟨i + 1, N + nr, by simp, h, .inl (unhide HR9), unhide HB9⟩
      case measure => simp only [intOf]; omega
    · have i1 : ¬ (i : Int) < (n : Int) := by omega
      have iz : decide ((i : Int) < (n : Int)) = false := decide_eq_false i1
      have en : i = n := by omega
      subst en
      have HTW := hide (fun X => twoM_any (i : Int) X (by omega) (by omega))
      have HFE : Hid (headL ++ recs (fs.take i) ++ [69] ++ two (i : Int) = fbL fs 0) := hide (by
        have e1 : fs.take i = fs := List.take_of_length_le (by rw [unhide HL]; omega)
        rw [e1]
        unfold fbL fileL
        rw [if_pos rfl, unhide HL]
        simp)
      clear hw
      go_wp2_with (at_builtin; refine unhide ?_)
      refine hide ?_
      have alo := ba (Below.refl wr.heap.size wr) (.cells (byL [69]).toArray 5)
      refine wpl_append_fb _ rfl _ _ rfl w.heap.size _ N _ rfl ((unhide HFB).bel alo) hNN.1 wr.heap.size 0 1 1 [69] rfl rfl (by omega) (vb.bys (vb_new wr 5 (byL [69]) wr.heap.size rfl)) (by omega) (Nat.le_trans hsz alo.size) ?_
      intro v8 W8 hr8 hb8
      have HR8 := hide hr8
      have HB8 := hide ((bc (unhide HW) alo).trans hb8)
      obtain ⟨u8_, c8, rfl, _⟩ := own_form hr8
      clear hr8 hb8 alo
      go_wp2_with fail
      refine (unhide HTW _).mono ?_
      rintro e Wm ⟨⟨gm, rfl, _, hvm⟩, hbm⟩
      have HRm := hide ((unhide HR8).bel hbm)
      have HWm := hide (bc (unhide HB8) hbm)
      have HVM := hide (vb.bys hvm)
      have hszm := (bc (unhide HB8) hbm).size
      clear hbm hvm
      go_wp2_with (at_builtin; refine unhide ?_)
      refine hide ?_
      refine wpl_append_fb _ rfl _ _ rfl w.heap.size _ (N + 1) _ rfl (.inl (unhide HRm)) (by omega) gm 0 2 2 (two (i : Int)) rfl rfl (by omega) (unhide HVM) (by omega) hszm ?_
      intro v' w1 hr9 hb9
      rw [unhide HFE] at hr9
      have HR9 := hide hr9
      have HB9 := hide ((unhide HWm).trans hb9)
      obtain ⟨u9, c9, rfl, _⟩ := own_form hr9
      clear hr9 hb9
      go_wp2_with fail
      refine bodyPost_ret (v := .tuple #[.slice u9 (N + 1 + 2) c9, .int .i64 0]) (by simp [results, Try.results10, go_sem]) rfl ⟨⟨_, 0, [], _, rfl, unhide HCK, unhide HR9⟩, unhide HB9⟩
end Go.Proofs.Ytibcgimggcdllaa

namespace Go.Proofs.Ytibcgimggcdllaa
open Go.ChangeShapes Go.WideShapes Go.ChangeAt Go.RowKit
set_option linter.unusedVariables false
set_option linter.unusedSimpArgs false

def mkB (c : Int) (n : Nat) : List Int := (List.range n).map fun j : Nat => IntKind.u8.wrap (c + (j : Int))
theorem mkB_len (c : Int) (n : Nat) : (mkB c n).length = n := by simp [mkB]
theorem mkB_at (c : Int) {n j : Nat} (h : j < n) : (mkB c n)[j]? = some (IntKind.u8.wrap (c + (j : Int))) := by simp [mkB, h]
theorem mkB_succ (c : Int) (n : Nat) : mkB c (n + 1) = mkB c n ++ [IntKind.u8.wrap (c + (n : Int))] := by simp [mkB, List.range_succ]
theorem mkB_step (c : Int) (L : List Int) (i : Nat) (h : i < L.length) : (mkB c i ++ L.drop i).set i (IntKind.u8.wrap (c + (i : Int))) = mkB c (i + 1) ++ L.drop (i + 1) := by
  rw [List.set_append, if_neg (by rw [mkB_len]; omega), mkB_len, Nat.sub_self, mkB_succ, List.append_assoc]
  congr 1
  rw [List.drop_eq_getElem_cons h]
  rfl
theorem Rb.slG {w : World} {B N cap : Nat} {u : Option Addr} {L : List Int} (h : Rb w B (.slice u N cap) N L) : ∃ p, SlG byc 1 w u p 0 L ∧ (L ≠ [] → p < w.heap.size ∧ B ≤ p) := by
  by_cases hn : N = 0
  · have : L = [] := List.eq_nil_of_length_eq_zero (by rw [h.len, hn])
    subst this
    exact ⟨0, fun h => absurd rfl h, fun h => absurd rfl h⟩
  · obtain ⟨u', c', e, _, _, hf⟩ := own_form h
    cases e
    obtain ⟨g, rfl, h1, h2, _⟩ := hf hn
    exact ⟨g, (h.bys hn).slG, fun _ => ⟨h2, h1⟩⟩
set_option maxHeartbeats 1000000 in
theorem by_mark (u : Option Addr) (N cap B : Nat) (L : List Int) (c : Int) (w : World) (hR : Rb w B (.slice u N cap) N L) (hB : B ≤ w.heap.size) (hn : N ≤ 1048576) (c0 : 0 ≤ c) (c1 : c ≤ 1000000) :
    Calls Try.prog 15 #[.slice u N cap, .int .i64 c] w fun e w' => e = .returned (.int .i64 (c + (N : Int))) ∧ Rb w' B (.slice u N cap) N (mkB c N) ∧ Below B w w' := by
  have HL := hide hR.len
  have HR := hide hR
  clear hR
  go_enter Try.func15, Try.ntmps15
  go_wp2
  go_loopw [1, 5] (fun s t W => ∃ i : Nat, s = .int .i64 (c + (i : Int)) ∧ t = .int .i64 (i : Int) ∧ i ≤ N ∧ Rb W B (.slice u N cap) N (mkB c i ++ L.drop i) ∧ Below B w W) (fun _ s _ => N - (intOf s).toNat)
  case atStart => exact ⟨0, by simp, rfl, Nat.zero_le _, by simpa [mkB] using unhide HR, Below.refl _ _⟩
  case round =>
    clear HR
    obtain ⟨i, rfl, rfl, hi, hr, hw⟩ := hrel
    have HR := hide hr
    have HW := hide hw
    have i0 : (0 : Int) ≤ (i : Int) := Int.natCast_nonneg _
    by_cases h : i < N
    · have i1 : (i : Int) < (N : Int) := by omega
      have iz : decide ((i : Int) < (N : Int)) = true := decide_eq_true i1
      obtain ⟨u', c', e, _, _, hf⟩ := own_form hr
      cases e
      obtain ⟨g, rfl, hg1, hg2, hc⟩ := hf (by omega)
      have hil : i < L.length := by rw [unhide HL]; exact h
      have k0 := hc i (.int .u8 (L[i]'hil)) (byL_at (by rw [List.getElem?_append_right (by rw [mkB_len]; omega), mkB_len, Nat.sub_self, List.getElem?_drop, Nat.add_zero]; exact List.getElem?_eq_getElem hil))
      generalize L[i]'hil = y at k0
      have fz : ∀ o, wr.frozen? ⟨g, o, none⟩ = false := own_frz hr
      clear hr hw hf hc
      obtain ⟨y', hy'⟩ : ∃ y', IntKind.u8.wrap (c + (i : Int)) = y' := ⟨_, rfl⟩
      have HY := hide hy'
      go_wp2_with fail
      go_roundw
      case rel =>
        refine ⟨i + 1, by simp only [Value.int.injEq, true_and]; omega, by simp, h, ?_, (unhide HW).setCell (p := ⟨g, i, none⟩) hg1 _⟩
        have h1 := own_set (unhide HR) i (.int .u8 y')
        have e1 : (byL (mkB c i ++ L.drop i)).set i (.int .u8 y') = byL (mkB c (i + 1) ++ L.drop (i + 1)) := by
          rw [← mkB_step c L i hil, unhide HY]
          simp [byL, List.map_set]
        rw [e1] at h1
        exact h1
      case measure => simp only [intOf]; omega
    · have i1 : ¬ (i : Int) < (N : Int) := by omega
      have iz : decide ((i : Int) < (N : Int)) = false := decide_eq_false i1
      have en : i = N := by omega
      subst en
      clear hr hw
      go_wp2_with fail
      go_ret
      refine ⟨rfl, ?_, unhide HW⟩
      have h1 := unhide HR
      rw [List.drop_eq_nil_of_le (by rw [unhide HL]; omega), List.append_nil] at h1
      exact h1
set_option maxHeartbeats 1000000 in
theorem by_held (u : Option Addr) (N cap B : Nat) (c : Int) (w : World) (hR : Rb w B (.slice u N cap) N (mkB c N)) (hn : N ≤ 1048576) (c0 : 0 ≤ c) (c1 : c ≤ 1000000) :
    Calls Try.prog 16 #[.slice u N cap, .int .i64 c] w fun e w' => e = .returned (.int .i64 (c + (N : Int))) ∧ Below w.heap.size w w' := by
  have HR := hide (fun W (hW : Below w.heap.size w W) => hR.bel hW)
  clear hR
  go_enter Try.func16, Try.ntmps16
  go_wp2
  go_loopw [1, 5] (fun s t W => ∃ i : Nat, s = .int .i64 (c + (i : Int)) ∧ t = .int .i64 (i : Int) ∧ i ≤ N ∧ Below w.heap.size w W) (fun _ s _ => N - (intOf s).toNat)
  case atStart => exact ⟨0, by simp, rfl, Nat.zero_le _, Below.refl _ _⟩
  case round =>
    obtain ⟨i, rfl, rfl, hi, hw⟩ := hrel
    have HW := hide hw
    have i0 : (0 : Int) ≤ (i : Int) := Int.natCast_nonneg _
    by_cases h : i < N
    · have i1 : (i : Int) < (N : Int) := by omega
      have iz : decide ((i : Int) < (N : Int)) = true := decide_eq_true i1
      obtain ⟨u', c', e, _, _, hf⟩ := own_form (unhide HR _ hw)
      cases e
      obtain ⟨g, rfl, hg1, hg2, hc⟩ := hf (by omega)
      have k0 := hc i _ (byL_at (mkB_at c h))
      obtain ⟨y', hy'⟩ : ∃ y', IntKind.u8.wrap (c + (i : Int)) = y' := ⟨_, rfl⟩
      rw [hy'] at k0
      have yy : (y' != y') = false := by simp
      clear hw hf hc
      go_wp2_with fail
      go_roundw
      case rel => exact ⟨i + 1, by simp only [Value.int.injEq, true_and]; omega, by simp, h, by repeat (first | exact unhide HW | refine bel_dn' ?_ _ | refine Below.drew ?_)⟩
      case measure => simp only [intOf]; omega
    · have i1 : ¬ (i : Int) < (N : Int) := by omega
      have iz : decide ((i : Int) < (N : Int)) = false := decide_eq_false i1
      have en : i = N := by omega
      subst en
      clear hw
      go_wp2_with fail
      go_ret
      exact ⟨rfl, unhide HW⟩
end Go.Proofs.Ytibcgimggcdllaa

namespace Go.Proofs.Ytibcgimggcdllaa
open Go.ChangeShapes Go.WideShapes Go.ChangeAt Go.RowKit
set_option linter.unusedVariables false
set_option linter.unusedSimpArgs false

theorem bxE_one (x0 y0 z0 x1 y1 z1 : Int) (w : World) : Calls Try.prog 43 #[.agg #[.int .i64 x0, .int .i64 y0, .int .i64 z0, .int .i64 x1, .int .i64 y1, .int .i64 z1], .agg #[.int .i64 x0, .int .i64 y0, .int .i64 z0, .int .i64 x1, .int .i64 y1, .int .i64 z1]] w fun e w' => e = .returned (.bool true) ∧ Below w.heap.size w w' := by
  go_enter Try.func43, Try.ntmps43
  go_wp2
  go_ret
  exact ⟨rfl, ba (ba (Below.refl _ _) _) _⟩
set_option maxRecDepth 100000 in
set_option maxHeartbeats 1000000 in
theorem ftE_one (s o v : ByteArray) (k d x0 y0 z0 x1 y1 z1 ct dx dy dz : Int) (w : World) : Calls Try.prog 29 #[.agg #[.string s, .string o, .string v, .int .i64 k, .int .i64 d, .int .i64 x0, .int .i64 y0, .int .i64 z0, .int .i64 x1, .int .i64 y1, .int .i64 z1, .int .i64 ct, .int .i64 dx, .int .i64 dy, .int .i64 dz], .agg #[.string s, .string o, .string v, .int .i64 k, .int .i64 d, .int .i64 x0, .int .i64 y0, .int .i64 z0, .int .i64 x1, .int .i64 y1, .int .i64 z1, .int .i64 ct, .int .i64 dx, .int .i64 dy, .int .i64 dz]] w fun e w' => e = .returned (.bool true) ∧ Below w.heap.size w w' := by
  have HB := hide (fun W => bxE_one x0 y0 z0 x1 y1 z1 W)
  have V1 := hide ((vb_new w 53 (ftc ⟨s, o, v, k, d, x0, y0, z0, x1, y1, z1, ct, dx, dy, dz⟩) _ rfl).bel (ba (Below.refl _ _) (.cells (ftc ⟨s, o, v, k, d, x0, y0, z0, x1, y1, z1, ct, dx, dy, dz⟩).toArray 53)))
  have V2 := hide (vb_new (w.alloc (.cells (ftc ⟨s, o, v, k, d, x0, y0, z0, x1, y1, z1, ct, dx, dy, dz⟩).toArray 53)) 53 (ftc ⟨s, o, v, k, d, x0, y0, z0, x1, y1, z1, ct, dx, dy, dz⟩) _ rfl)
  simp only [World.size_alloc] at V2
  go_enter Try.func29, Try.ntmps29
  go_wp2_with fail
  refine (unhide HB _).mono ?_
  rintro e W1 ⟨rfl, hb⟩
  have a1 := ((unhide V1).bel hb).cell (m := 11) rfl
  have a2 := ((unhide V1).bel hb).cell (m := 12) rfl
  have a3 := ((unhide V1).bel hb).cell (m := 13) rfl
  have a4 := ((unhide V1).bel hb).cell (m := 14) rfl
  have b1 := ((unhide V2).bel hb).cell (m := 11) rfl
  have b2 := ((unhide V2).bel hb).cell (m := 12) rfl
  have b3 := ((unhide V2).bel hb).cell (m := 13) rfl
  have b4 := ((unhide V2).bel hb).cell (m := 14) rfl
  simp only at a1 a2 a3 a4 b1 b2 b3 b4
  have HB1 := hide (bc (ba (ba (Below.refl w.heap.size w) (.cells #[.string s, .string o, .string v, .int .i64 k, .int .i64 d, .int .i64 x0, .int .i64 y0, .int .i64 z0, .int .i64 x1, .int .i64 y1, .int .i64 z1, .int .i64 ct, .int .i64 dx, .int .i64 dy, .int .i64 dz] 53)) (.cells #[.string s, .string o, .string v, .int .i64 k, .int .i64 d, .int .i64 x0, .int .i64 y0, .int .i64 z0, .int .i64 x1, .int .i64 y1, .int .i64 z1, .int .i64 ct, .int .i64 dx, .int .i64 dy, .int .i64 dz] 53)) hb)
  clear hb
  go_wp2_with fail
  go_ret
  exact ⟨rfl, unhide HB1⟩

set_option maxRecDepth 100000 in
set_option maxHeartbeats 4000000 in
theorem ft_same (u v : Option Addr) (p po q qo n cu cv : Nat) (fs : List Ft) (w : World) (hl : fs.length = n) (hn : n ≤ 1048576) (hu : SlG ftc 15 w u p po fs) (hv : SlG ftc 15 w v q qo fs) :
    Calls Try.prog 13 #[.slice u n cu, .slice v n cv] w fun e w' => e = .returned (.bool true) ∧ Below w.heap.size w w' := by
  have HU := hide hu
  have HV := hide hv
  have HL := hide hl
  clear hu hv hl
  go_enter Try.func13, Try.ntmps13
  go_wp2
  go_loopw [5] (fun s W => ∃ i : Nat, s = .int .i64 (i : Int) ∧ i ≤ n ∧ Below w.heap.size w W) (fun s _ => n - (intOf s).toNat)
  case atStart => exact ⟨0, rfl, Nat.zero_le _, Below.refl _ _⟩
  case round =>
    obtain ⟨i, rfl, hi, hw⟩ := hrel
    have HW := hide hw
    clear hw
    by_cases h : i < n
    · have i1 : (i : Int) < (n : Int) := by omega
      have i0 : (0 : Int) ≤ (i : Int) := Int.natCast_nonneg _
      have iz : decide ((i : Int) < (n : Int)) = true := decide_eq_true i1
      obtain ⟨⟨s, o, v, k, d, x0, y0, z0, x1, y1, z1, ct, dx, dy, dz⟩, hx⟩ := get_some (unhide HL) h
      obtain ⟨rfl, k0, k1, k2, k3, k4, k5, k6, k7, k8, k9, k10, k11, k12, k13, k14⟩ := ((unhide HU).bel (unhide HW)).at15 hx
      obtain ⟨rfl, l0, l1, l2, l3, l4, l5, l6, l7, l8, l9, l10, l11, l12, l13, l14⟩ := ((unhide HV).bel (unhide HW)).at15 hx
      simp only at k0 k1 k2 k3 k4 k5 k6 k7 k8 k9 k10 k11 k12 k13 k14 l0 l1 l2 l3 l4 l5 l6 l7 l8 l9 l10 l11 l12 l13 l14
      clear hx
      go_wp2_with fail
      go_region_held3 (fun wx => wx.cell? ⟨p, po + i * 15, none⟩ = some (.string s) ∧ wx.cell? ⟨p, po + i * 15 + 1, none⟩ = some (.string o) ∧ wx.cell? ⟨p, po + i * 15 + 2, none⟩ = some (.string v) ∧ wx.cell? ⟨p, po + i * 15 + 3, none⟩ = some (.int .i64 k) ∧ wx.cell? ⟨p, po + i * 15 + 4, none⟩ = some (.int .i64 d) ∧ wx.cell? ⟨p, po + i * 15 + 5, none⟩ = some (.int .i64 x0) ∧ wx.cell? ⟨p, po + i * 15 + 6, none⟩ = some (.int .i64 y0) ∧ wx.cell? ⟨p, po + i * 15 + 7, none⟩ = some (.int .i64 z0) ∧ wx.cell? ⟨p, po + i * 15 + 8, none⟩ = some (.int .i64 x1) ∧ wx.cell? ⟨p, po + i * 15 + 9, none⟩ = some (.int .i64 y1) ∧ wx.cell? ⟨p, po + i * 15 + 10, none⟩ = some (.int .i64 z1) ∧ wx.cell? ⟨p, po + i * 15 + 11, none⟩ = some (.int .i64 ct) ∧ wx.cell? ⟨p, po + i * 15 + 12, none⟩ = some (.int .i64 dx) ∧ wx.cell? ⟨p, po + i * 15 + 13, none⟩ = some (.int .i64 dy) ∧ wx.cell? ⟨p, po + i * 15 + 14, none⟩ = some (.int .i64 dz) ∧ wx.cell? ⟨q, qo + i * 15, none⟩ = some (.string s) ∧ wx.cell? ⟨q, qo + i * 15 + 1, none⟩ = some (.string o) ∧ wx.cell? ⟨q, qo + i * 15 + 2, none⟩ = some (.string v) ∧ wx.cell? ⟨q, qo + i * 15 + 3, none⟩ = some (.int .i64 k) ∧ wx.cell? ⟨q, qo + i * 15 + 4, none⟩ = some (.int .i64 d) ∧ wx.cell? ⟨q, qo + i * 15 + 5, none⟩ = some (.int .i64 x0) ∧ wx.cell? ⟨q, qo + i * 15 + 6, none⟩ = some (.int .i64 y0) ∧ wx.cell? ⟨q, qo + i * 15 + 7, none⟩ = some (.int .i64 z0) ∧ wx.cell? ⟨q, qo + i * 15 + 8, none⟩ = some (.int .i64 x1) ∧ wx.cell? ⟨q, qo + i * 15 + 9, none⟩ = some (.int .i64 y1) ∧ wx.cell? ⟨q, qo + i * 15 + 10, none⟩ = some (.int .i64 z1) ∧ wx.cell? ⟨q, qo + i * 15 + 11, none⟩ = some (.int .i64 ct) ∧ wx.cell? ⟨q, qo + i * 15 + 12, none⟩ = some (.int .i64 dx) ∧ wx.cell? ⟨q, qo + i * 15 + 13, none⟩ = some (.int .i64 dy) ∧ wx.cell? ⟨q, qo + i * 15 + 14, none⟩ = some (.int .i64 dz))
        (simp (maxDischargeDepth := 12) [go_sem, le1, lt1, *])
        (first
        | (go_at_call 29; refine (ftE_one _ _ _ _ _ _ _ _ _ _ _ _ _ _ _ _).mono ?_; rintro e w' ⟨rfl, hb⟩; have HB := hide hb; have ya0 := keep1 hb (b := p) (o := _) (v := .string s) k0; have ya1 := keep1 hb (b := p) (o := _) (v := .string o) k1; have ya2 := keep1 hb (b := p) (o := _) (v := .string v) k2; have ya3 := keep1 hb (b := p) (o := _) (v := .int .i64 k) k3; have ya4 := keep1 hb (b := p) (o := _) (v := .int .i64 d) k4; have ya5 := keep1 hb (b := p) (o := _) (v := .int .i64 x0) k5; have ya6 := keep1 hb (b := p) (o := _) (v := .int .i64 y0) k6; have ya7 := keep1 hb (b := p) (o := _) (v := .int .i64 z0) k7; have ya8 := keep1 hb (b := p) (o := _) (v := .int .i64 x1) k8; have ya9 := keep1 hb (b := p) (o := _) (v := .int .i64 y1) k9; have ya10 := keep1 hb (b := p) (o := _) (v := .int .i64 z1) k10; have ya11 := keep1 hb (b := p) (o := _) (v := .int .i64 ct) k11; have ya12 := keep1 hb (b := p) (o := _) (v := .int .i64 dx) k12; have ya13 := keep1 hb (b := p) (o := _) (v := .int .i64 dy) k13; have ya14 := keep1 hb (b := p) (o := _) (v := .int .i64 dz) k14; have za0 := keep1 hb (b := q) (o := _) (v := .string s) l0; have za1 := keep1 hb (b := q) (o := _) (v := .string o) l1; have za2 := keep1 hb (b := q) (o := _) (v := .string v) l2; have za3 := keep1 hb (b := q) (o := _) (v := .int .i64 k) l3; have za4 := keep1 hb (b := q) (o := _) (v := .int .i64 d) l4; have za5 := keep1 hb (b := q) (o := _) (v := .int .i64 x0) l5; have za6 := keep1 hb (b := q) (o := _) (v := .int .i64 y0) l6; have za7 := keep1 hb (b := q) (o := _) (v := .int .i64 z0) l7; have za8 := keep1 hb (b := q) (o := _) (v := .int .i64 x1) l8; have za9 := keep1 hb (b := q) (o := _) (v := .int .i64 y1) l9; have za10 := keep1 hb (b := q) (o := _) (v := .int .i64 z1) l10; have za11 := keep1 hb (b := q) (o := _) (v := .int .i64 ct) l11; have za12 := keep1 hb (b := q) (o := _) (v := .int .i64 dx) l12; have za13 := keep1 hb (b := q) (o := _) (v := .int .i64 dy) l13; have za14 := keep1 hb (b := q) (o := _) (v := .int .i64 dz) l14; clear hb))
      all_goals
        go_wp2_with fail
        go_roundw
        case rel => exact ⟨i + 1, by simp, h, by repeat (first | exact unhide HW | refine bc ?_ (unhide HB) | refine Below.drew ?_)⟩
        case measure => simp only [intOf]; omega
    · have i1 : ¬ (i : Int) < (n : Int) := by omega
      have iz : decide ((i : Int) < (n : Int)) = false := decide_eq_false i1
      go_wp2_with fail
      go_ret
      exact ⟨rfl, unhide HW⟩
end Go.Proofs.Ytibcgimggcdllaa

namespace Go.Proofs.Ytibcgimggcdllaa
open Go.ChangeShapes Go.WideShapes Go.ChangeAt Go.RowKit
set_option linter.unusedVariables false
set_option linter.unusedSimpArgs false

theorem bx_conv (x0 y0 z0 x1 y1 z1 : Int) (w : World) : Calls Try.prog 36 #[.agg #[.int .i64 x0, .int .i64 y0, .int .i64 z0, .int .i64 x1, .int .i64 y1, .int .i64 z1]] w fun e w' => e = .returned (.agg #[.int .i64 x0, .int .i64 y0, .int .i64 z0, .int .i64 x1, .int .i64 y1, .int .i64 z1]) ∧ Below w.heap.size w w' := by
  go_enter Try.func36, Try.ntmps36
  go_wp2
  exact bodyPost_ret (v := .agg #[.int .i64 x0, .int .i64 y0, .int .i64 z0, .int .i64 x1, .int .i64 y1, .int .i64 z1]) (by simp [results, Try.results36, go_sem]) rfl ⟨rfl, by repeat (first | exact Below.refl _ _ | refine ba ?_ _)⟩
set_option maxRecDepth 100000 in
set_option maxHeartbeats 4000000 in
theorem ft_conv (s o v : ByteArray) (k d x0 y0 z0 x1 y1 z1 ct dx dy dz : Int) (w : World) : Calls Try.prog 24 #[.agg #[.string s, .string o, .string v, .int .i64 k, .int .i64 d, .int .i64 x0, .int .i64 y0, .int .i64 z0, .int .i64 x1, .int .i64 y1, .int .i64 z1, .int .i64 ct, .int .i64 dx, .int .i64 dy, .int .i64 dz]] w fun e w' => e = .returned (.agg #[.string s, .string o, .string v, .int .i64 k, .int .i64 d, .int .i64 x0, .int .i64 y0, .int .i64 z0, .int .i64 x1, .int .i64 y1, .int .i64 z1, .int .i64 ct, .int .i64 dx, .int .i64 dy, .int .i64 dz]) ∧ Below w.heap.size w w' := by
  have HB := hide (fun W => bx_conv x0 y0 z0 x1 y1 z1 W)
  have V0 := hide (((vb_new w 45 (ftc ⟨s, o, v, k, d, x0, y0, z0, x1, y1, z1, ct, dx, dy, dz⟩) _ rfl).bel (ba (Below.refl _ _) (.cells (ftc ft0).toArray 53))).bel (ba (Below.refl _ _) (.cells (ftc ⟨s, o, v, k, d, 0, 0, 0, 0, 0, 0, 0, 0, 0, 0⟩).toArray 53)))
  have V1 := hide ((vb_new (w.alloc (.cells (ftc ⟨s, o, v, k, d, x0, y0, z0, x1, y1, z1, ct, dx, dy, dz⟩).toArray 45)) 53 (ftc ft0) _ rfl).bel (ba (Below.refl _ _) (.cells (ftc ⟨s, o, v, k, d, 0, 0, 0, 0, 0, 0, 0, 0, 0, 0⟩).toArray 53)))
  have V2 := hide (vb_new ((w.alloc (.cells (ftc ⟨s, o, v, k, d, x0, y0, z0, x1, y1, z1, ct, dx, dy, dz⟩).toArray 45)).alloc (.cells (ftc ft0).toArray 53)) 53 (ftc ⟨s, o, v, k, d, 0, 0, 0, 0, 0, 0, 0, 0, 0, 0⟩) _ rfl)
  have HB0 := hide (ba (ba (ba (Below.refl w.heap.size w) (.cells (ftc ⟨s, o, v, k, d, x0, y0, z0, x1, y1, z1, ct, dx, dy, dz⟩).toArray 45)) (.cells (ftc ft0).toArray 53)) (.cells (ftc ⟨s, o, v, k, d, 0, 0, 0, 0, 0, 0, 0, 0, 0, 0⟩).toArray 53))
  simp only [World.size_alloc] at V1 V2
  go_enter Try.func24, Try.ntmps24
  go_wp2_with fail
  refine (unhide HB _).mono ?_
  rintro e W1 ⟨rfl, hb⟩
  have a11 := ((unhide V0).bel hb).cell (m := 11) rfl
  have a12 := ((unhide V0).bel hb).cell (m := 12) rfl
  have a13 := ((unhide V0).bel hb).cell (m := 13) rfl
  have a14 := ((unhide V0).bel hb).cell (m := 14) rfl
  have e0 := ((unhide V2).bel hb).cell (m := 0) rfl
  have e1 := ((unhide V2).bel hb).cell (m := 1) rfl
  have e2 := ((unhide V2).bel hb).cell (m := 2) rfl
  have e3 := ((unhide V2).bel hb).cell (m := 3) rfl
  have e4 := ((unhide V2).bel hb).cell (m := 4) rfl
  have e5 := ((unhide V2).bel hb).cell (m := 5) rfl
  have e6 := ((unhide V2).bel hb).cell (m := 6) rfl
  have e7 := ((unhide V2).bel hb).cell (m := 7) rfl
  have e8 := ((unhide V2).bel hb).cell (m := 8) rfl
  have e9 := ((unhide V2).bel hb).cell (m := 9) rfl
  have e10 := ((unhide V2).bel hb).cell (m := 10) rfl
  have e11 := ((unhide V2).bel hb).cell (m := 11) rfl
  have e12 := ((unhide V2).bel hb).cell (m := 12) rfl
  have e13 := ((unhide V2).bel hb).cell (m := 13) rfl
  have e14 := ((unhide V2).bel hb).cell (m := 14) rfl
  have r0 := ((unhide V1).bel hb).cell (m := 0) rfl
  have r1 := ((unhide V1).bel hb).cell (m := 1) rfl
  have r2 := ((unhide V1).bel hb).cell (m := 2) rfl
  have r3 := ((unhide V1).bel hb).cell (m := 3) rfl
  have r4 := ((unhide V1).bel hb).cell (m := 4) rfl
  have r5 := ((unhide V1).bel hb).cell (m := 5) rfl
  have r6 := ((unhide V1).bel hb).cell (m := 6) rfl
  have r7 := ((unhide V1).bel hb).cell (m := 7) rfl
  have r8 := ((unhide V1).bel hb).cell (m := 8) rfl
  have r9 := ((unhide V1).bel hb).cell (m := 9) rfl
  have r10 := ((unhide V1).bel hb).cell (m := 10) rfl
  have r11 := ((unhide V1).bel hb).cell (m := 11) rfl
  have r12 := ((unhide V1).bel hb).cell (m := 12) rfl
  have r13 := ((unhide V1).bel hb).cell (m := 13) rfl
  have r14 := ((unhide V1).bel hb).cell (m := 14) rfl
  simp only [ft0] at a11 a12 a13 a14 e0 e1 e2 e3 e4 e5 e6 e7 e8 e9 e10 e11 e12 e13 e14 r0 r1 r2 r3 r4 r5 r6 r7 r8 r9 r10 r11 r12 r13 r14
  have fz2 : ∀ q, W1.frozen? ⟨w.heap.size + 1 + 1, q, none⟩ = false := ((unhide V2).bel hb).frozen
  have fz1 : ∀ q, W1.frozen? ⟨w.heap.size + 1, q, none⟩ = false := ((unhide V1).bel hb).frozen
  have HB1 := hide (bc (unhide HB0) hb)
  have U1 := hide ((unhide V1).bel hb)
  clear hb
  go_wp2_with fail
  have h0 := (vb.ne (g' := w.heap.size + 1 + 1) (o := 14) (x := .int .i64 dz) (vb.ne (g' := w.heap.size + 1 + 1) (o := 13) (x := .int .i64 dy) (vb.ne (g' := w.heap.size + 1 + 1) (o := 12) (x := .int .i64 dx) (vb.ne (g' := w.heap.size + 1 + 1) (o := 11) (x := .int .i64 ct) (vb.ne (g' := w.heap.size + 1 + 1) (o := 10) (x := .int .i64 z1) (vb.ne (g' := w.heap.size + 1 + 1) (o := 9) (x := .int .i64 y1) (vb.ne (g' := w.heap.size + 1 + 1) (o := 8) (x := .int .i64 x1) (vb.ne (g' := w.heap.size + 1 + 1) (o := 7) (x := .int .i64 z0) (vb.ne (g' := w.heap.size + 1 + 1) (o := 6) (x := .int .i64 y0) (vb.ne (g' := w.heap.size + 1 + 1) (o := 5) (x := .int .i64 x0) (unhide U1) (by omega)) (by omega)) (by omega)) (by omega)) (by omega)) (by omega)) (by omega)) (by omega)) (by omega)) (by omega))
  have h15 := (((((((((((((((h0.set 0 (.string s)).set 1 (.string o)).set 2 (.string v)).set 3 (.int .i64 k)).set 4 (.int .i64 d)).set 5 (.int .i64 x0)).set 6 (.int .i64 y0)).set 7 (.int .i64 z0)).set 8 (.int .i64 x1)).set 9 (.int .i64 y1)).set 10 (.int .i64 z1)).set 11 (.int .i64 ct)).set 12 (.int .i64 dx)).set 13 (.int .i64 dy)).set 14 (.int .i64 dz))
  simp only [ftc, ft0, List.set_cons_zero, List.set_cons_succ] at h15
  have z0' := h15.cell (m := 0) rfl
  have z1' := h15.cell (m := 1) rfl
  have z2' := h15.cell (m := 2) rfl
  have z3' := h15.cell (m := 3) rfl
  have z4' := h15.cell (m := 4) rfl
  have z5' := h15.cell (m := 5) rfl
  have z6' := h15.cell (m := 6) rfl
  have z7' := h15.cell (m := 7) rfl
  have z8' := h15.cell (m := 8) rfl
  have z9' := h15.cell (m := 9) rfl
  have z10' := h15.cell (m := 10) rfl
  have z11' := h15.cell (m := 11) rfl
  have z12' := h15.cell (m := 12) rfl
  have z13' := h15.cell (m := 13) rfl
  have z14' := h15.cell (m := 14) rfl
  have hA : w.heap.size ≤ w.heap.size + 1 + 1 := by omega
  have hR : w.heap.size ≤ w.heap.size + 1 := by omega
  have q1 := hide (Below.setCell (unhide HB1) (p := ⟨w.heap.size + 1 + 1, 5, none⟩) hA (.int .i64 x0))
  have q2 := hide (Below.setCell (unhide q1) (p := ⟨w.heap.size + 1 + 1, 6, none⟩) hA (.int .i64 y0))
  have q3 := hide (Below.setCell (unhide q2) (p := ⟨w.heap.size + 1 + 1, 7, none⟩) hA (.int .i64 z0))
  have q4 := hide (Below.setCell (unhide q3) (p := ⟨w.heap.size + 1 + 1, 8, none⟩) hA (.int .i64 x1))
  have q5 := hide (Below.setCell (unhide q4) (p := ⟨w.heap.size + 1 + 1, 9, none⟩) hA (.int .i64 y1))
  have q6 := hide (Below.setCell (unhide q5) (p := ⟨w.heap.size + 1 + 1, 10, none⟩) hA (.int .i64 z1))
  have q7 := hide (Below.setCell (unhide q6) (p := ⟨w.heap.size + 1 + 1, 11, none⟩) hA (.int .i64 ct))
  have q8 := hide (Below.setCell (unhide q7) (p := ⟨w.heap.size + 1 + 1, 12, none⟩) hA (.int .i64 dx))
  have q9 := hide (Below.setCell (unhide q8) (p := ⟨w.heap.size + 1 + 1, 13, none⟩) hA (.int .i64 dy))
  have q10 := hide (Below.setCell (unhide q9) (p := ⟨w.heap.size + 1 + 1, 14, none⟩) hA (.int .i64 dz))
  have q11 := hide (Below.setCell (unhide q10) (p := ⟨w.heap.size + 1, 0, none⟩) hR (.string s))
  have q12 := hide (Below.setCell (unhide q11) (p := ⟨w.heap.size + 1, 1, none⟩) hR (.string o))
  have q13 := hide (Below.setCell (unhide q12) (p := ⟨w.heap.size + 1, 2, none⟩) hR (.string v))
  have q14 := hide (Below.setCell (unhide q13) (p := ⟨w.heap.size + 1, 3, none⟩) hR (.int .i64 k))
  have q15 := hide (Below.setCell (unhide q14) (p := ⟨w.heap.size + 1, 4, none⟩) hR (.int .i64 d))
  have q16 := hide (Below.setCell (unhide q15) (p := ⟨w.heap.size + 1, 5, none⟩) hR (.int .i64 x0))
  have q17 := hide (Below.setCell (unhide q16) (p := ⟨w.heap.size + 1, 6, none⟩) hR (.int .i64 y0))
  have q18 := hide (Below.setCell (unhide q17) (p := ⟨w.heap.size + 1, 7, none⟩) hR (.int .i64 z0))
  have q19 := hide (Below.setCell (unhide q18) (p := ⟨w.heap.size + 1, 8, none⟩) hR (.int .i64 x1))
  have q20 := hide (Below.setCell (unhide q19) (p := ⟨w.heap.size + 1, 9, none⟩) hR (.int .i64 y1))
  have q21 := hide (Below.setCell (unhide q20) (p := ⟨w.heap.size + 1, 10, none⟩) hR (.int .i64 z1))
  have q22 := hide (Below.setCell (unhide q21) (p := ⟨w.heap.size + 1, 11, none⟩) hR (.int .i64 ct))
  have q23 := hide (Below.setCell (unhide q22) (p := ⟨w.heap.size + 1, 12, none⟩) hR (.int .i64 dx))
  have q24 := hide (Below.setCell (unhide q23) (p := ⟨w.heap.size + 1, 13, none⟩) hR (.int .i64 dy))
  have q25 := hide (Below.setCell (unhide q24) (p := ⟨w.heap.size + 1, 14, none⟩) hR (.int .i64 dz))
  exact bodyPost_ret (v := .agg #[.string s, .string o, .string v, .int .i64 k, .int .i64 d, .int .i64 x0, .int .i64 y0, .int .i64 z0, .int .i64 x1, .int .i64 y1, .int .i64 z1, .int .i64 ct, .int .i64 dx, .int .i64 dy, .int .i64 dz]) (by simp [results, Try.results24, go_sem, z0', z1', z2', z3', z4', z5', z6', z7', z8', z9', z10', z11', z12', z13', z14']; done) rfl ⟨rfl, (unhide q25)⟩
def fillF (fs : List Ft) (i : Nat) : List Ft := fs.take i ++ List.replicate (fs.length - i) ft0
theorem fillF_len (fs : List Ft) (i : Nat) (h : i ≤ fs.length) : (fillF fs i).length = fs.length := by simp [fillF]; omega
theorem fillF_at (fs : List Ft) (i : Nat) (h : i < fs.length) : (fillF fs i)[i]? = some ft0 := by
  unfold fillF
  rw [List.getElem?_append_right (by simp; omega), List.getElem?_replicate]
  simp
  omega
theorem fillF_step (fs : List Ft) (i : Nat) (f : Ft) (h : fs[i]? = some f) : (fillF fs i).set i f = fillF fs (i + 1) := by
  have hi : i < fs.length := (List.getElem?_eq_some_iff.1 h).1
  unfold fillF
  have hl : (fs.take i).length = i := by simp; omega
  rw [List.set_append, if_neg (by omega), hl, Nat.sub_self, List.take_add_one, h]
  have e : fs.length - i = (fs.length - (i + 1)) + 1 := by omega
  rw [e, List.replicate_succ]
  simp
theorem fillF_zero (fs : List Ft) : fillF fs 0 = List.replicate fs.length ft0 := by simp [fillF]
theorem fillF_all (fs : List Ft) : fillF fs fs.length = fs := by simp [fillF]
theorem made_ft (m : Nat) : madeCells (ftv ft0).cells (m * 15) = (flatG ftc (List.replicate m ft0)).toArray := by
  apply Array.ext
  · simp [madeCells, flatG_len ftc_len]
  · intro i h1 h2
    have hi : i < m * 15 := by simpa [madeCells] using h1
    have hd : i / 15 < m := by omega
    have hr : (List.replicate m ft0)[i / 15]? = some ft0 := by simp [List.getElem?_replicate, hd]
    have hlt : i % 15 < (ftc ft0).length := by rw [ftc_len]; omega
    have hf := flatG_at ftc_len hr (j := i % 15) (v := (ftc ft0)[i % 15]) (List.getElem?_eq_getElem hlt)
    rw [show i / 15 * 15 + i % 15 = i by omega] at hf
    have hc : (ftv ft0).cells = (ftc ft0).toArray := rfl
    have hx : (flatG ftc (List.replicate m ft0))[i]? = some (flatG ftc (List.replicate m ft0))[i] := List.getElem?_eq_getElem _
    simp only [madeCells, Array.getElem_map, Array.getElem_range, hc, List.getElem_toArray]
    show ((ftc ft0).toArray)[i % 15]! = _
    rw [hx] at hf
    have := Option.some.inj hf
    rw [this, getElem!_pos (ftc ft0).toArray (i % 15) (by simpa using hlt)]
    simp
theorem ft_info : (Try.prog.info? 53).map (fun i => (i.zero, i.size, i.bytes)) = some (some (ftv ft0), 15, 144) := by kernel_rfl
theorem make_ft (n : Nat) (hn : n ≤ 1048576) (W : World) :
    (Instr.makeSlice 31 (.int .i64 (n : Int)) (.int .i64 (n : Int))).run Try.prog W = .ok (.slice (some ⟨W.heap.size, 0, none⟩) n n) (W.alloc (.cells (flatG ftc (List.replicate n ft0)).toArray 53)) := by
  obtain ⟨i, hx, h0, h1, h2⟩ := info_parts ft_info
  have := run_make (P := Try.prog) W 31 53 i (ftv ft0) Try.underlying31 hx h0 .i64 .i64 n n (by omega) (by omega) (by rw [h2]; omega) (by omega)
  rw [Int.toNat_natCast, h1, made_ft] at this
  exact this
set_option maxRecDepth 100000 in
set_option maxHeartbeats 4000000 in
theorem ft_to (u : Option Addr) (p po n cu : Nat) (fs : List Ft) (w : World) (hl : fs.length = n) (hn : n ≤ 1048576) (hu : SlG ftc 15 w u p po fs) :
    Calls Try.prog 11 #[.slice u n cu] w fun e w' => (∃ g, e = .returned (.slice (some ⟨g, 0, none⟩) n n) ∧ w.heap.size ≤ g ∧ vb w' g 53 (flatG ftc fs)) ∧ Below w.heap.size w w' := by
  have HU := hide hu
  have HL := hide hl
  clear hu hl
  have hmk := fun W => make_ft n hn W
  generalize hzz : flatG ftc (List.replicate n ft0) = Z at hmk
  have HZ := hide hzz
  clear hzz
  go_enter Try.func11, Try.ntmps11
  go_wp2_with fail
  have HG := hide (vb_new w 53 Z _ rfl)
  have HB0 := hide (ba (Below.refl w.heap.size w) (.cells Z.toArray 53))
  clear hmk
  go_loopw [4] (fun s W => ∃ i : Nat, s = .int .i64 (i : Int) ∧ i ≤ n ∧ vb W w.heap.size 53 (flatG ftc (fillF fs i)) ∧ Below w.heap.size w W) (fun s _ => n - (intOf s).toNat)
  case atStart =>
    refine ⟨0, rfl, Nat.zero_le _, ?_, unhide HB0⟩
    rw [fillF_zero, unhide HL, unhide HZ]
    exact unhide HG
  case round =>
    obtain ⟨i, rfl, hi, hb, hw⟩ := hrel
    have HB := hide hb
    have HW := hide hw
    clear hb hw HG HB0
    by_cases h : i < n
    · have i1 : (i : Int) < (n : Int) := by omega
      have i0 : (0 : Int) ≤ (i : Int) := Int.natCast_nonneg _
      have iz : decide ((i : Int) < (n : Int)) = true := decide_eq_true i1
      obtain ⟨⟨s, o, v, k, d, x0, y0, z0, x1, y1, z1, ct, dx, dy, dz⟩, hx⟩ := get_some (unhide HL) h
      obtain ⟨rfl, k0, k1, k2, k3, k4, k5, k6, k7, k8, k9, k10, k11, k12, k13, k14⟩ := ((unhide HU).bel (unhide HW)).at15 hx
      simp only at k0 k1 k2 k3 k4 k5 k6 k7 k8 k9 k10 k11 k12 k13 k14
      have HX := hide hx
      clear hx
      go_wp2_with fail
      refine (ft_conv _ _ _ _ _ _ _ _ _ _ _ _ _ _ _ _).mono ?_
      rintro e W1 ⟨rfl, hb⟩
      have pb := (unhide HB).bel hb
      have m0 := pb.cell (flatG_at ftc_len (fillF_at fs i (by rw [unhide HL]; exact h)) (j := 0) rfl)
      have m1 := pb.cell (flatG_at ftc_len (fillF_at fs i (by rw [unhide HL]; exact h)) (j := 1) rfl)
      have m2 := pb.cell (flatG_at ftc_len (fillF_at fs i (by rw [unhide HL]; exact h)) (j := 2) rfl)
      have m3 := pb.cell (flatG_at ftc_len (fillF_at fs i (by rw [unhide HL]; exact h)) (j := 3) rfl)
      have m4 := pb.cell (flatG_at ftc_len (fillF_at fs i (by rw [unhide HL]; exact h)) (j := 4) rfl)
      have m5 := pb.cell (flatG_at ftc_len (fillF_at fs i (by rw [unhide HL]; exact h)) (j := 5) rfl)
      have m6 := pb.cell (flatG_at ftc_len (fillF_at fs i (by rw [unhide HL]; exact h)) (j := 6) rfl)
      have m7 := pb.cell (flatG_at ftc_len (fillF_at fs i (by rw [unhide HL]; exact h)) (j := 7) rfl)
      have m8 := pb.cell (flatG_at ftc_len (fillF_at fs i (by rw [unhide HL]; exact h)) (j := 8) rfl)
      have m9 := pb.cell (flatG_at ftc_len (fillF_at fs i (by rw [unhide HL]; exact h)) (j := 9) rfl)
      have m10 := pb.cell (flatG_at ftc_len (fillF_at fs i (by rw [unhide HL]; exact h)) (j := 10) rfl)
      have m11 := pb.cell (flatG_at ftc_len (fillF_at fs i (by rw [unhide HL]; exact h)) (j := 11) rfl)
      have m12 := pb.cell (flatG_at ftc_len (fillF_at fs i (by rw [unhide HL]; exact h)) (j := 12) rfl)
      have m13 := pb.cell (flatG_at ftc_len (fillF_at fs i (by rw [unhide HL]; exact h)) (j := 13) rfl)
      have m14 := pb.cell (flatG_at ftc_len (fillF_at fs i (by rw [unhide HL]; exact h)) (j := 14) rfl)
      simp only [ft0, Nat.add_zero] at m0 m1 m2 m3 m4 m5 m6 m7 m8 m9 m10 m11 m12 m13 m14
      have fz : ∀ q, W1.frozen? ⟨w.heap.size, q, none⟩ = false := pb.frozen
      have PB := hide pb
      have HW1 := hide (bc (unhide HW) hb)
      clear hb pb k0 k1 k2 k3 k4 k5 k6 k7 k8 k9 k10 k11 k12 k13 k14
      go_wp2_with fail
      go_roundw
      case rel =>
        refine ⟨i + 1, by simp, h, ?_, ?_⟩
        · rw [← fillF_step fs i _ (unhide HX), flatG_set ftc_len _ _ _ (by rw [fillF_len _ _ (by rw [unhide HL]; omega), unhide HL]; exact h)]
          exact ((((((((((((((((unhide PB).set (i * 15) (.string s)).set (i * 15 + 1) (.string o)).set (i * 15 + 2) (.string v)).set (i * 15 + 3) (.int .i64 k)).set (i * 15 + 4) (.int .i64 d)).set (i * 15 + 5) (.int .i64 x0)).set (i * 15 + 6) (.int .i64 y0)).set (i * 15 + 7) (.int .i64 z0)).set (i * 15 + 8) (.int .i64 x1)).set (i * 15 + 9) (.int .i64 y1)).set (i * 15 + 10) (.int .i64 z1)).set (i * 15 + 11) (.int .i64 ct)).set (i * 15 + 12) (.int .i64 dx)).set (i * 15 + 13) (.int .i64 dy)).set (i * 15 + 14) (.int .i64 dz))
        · exact (Below.setCell (Below.setCell (Below.setCell (Below.setCell (Below.setCell (Below.setCell (Below.setCell (Below.setCell (Below.setCell (Below.setCell (Below.setCell (Below.setCell (Below.setCell (Below.setCell (Below.setCell (unhide HW1) (Nat.le_refl _) _) (Nat.le_refl _) _) (Nat.le_refl _) _) (Nat.le_refl _) _) (Nat.le_refl _) _) (Nat.le_refl _) _) (Nat.le_refl _) _) (Nat.le_refl _) _) (Nat.le_refl _) _) (Nat.le_refl _) _) (Nat.le_refl _) _) (Nat.le_refl _) _) (Nat.le_refl _) _) (Nat.le_refl _) _) (Nat.le_refl _) _)
      case measure => simp only [intOf]; omega
    · have i1 : ¬ (i : Int) < (n : Int) := by omega
      have iz : decide ((i : Int) < (n : Int)) = false := decide_eq_false i1
      have en : i = n := by omega
      subst en
      go_wp2_with fail
      go_ret
      refine ⟨⟨_, rfl, Nat.le_refl _, ?_⟩, unhide HW⟩
      have h1 := unhide HB
      rw [← unhide HL, fillF_all] at h1
      exact h1
end Go.Proofs.Ytibcgimggcdllaa

namespace Go.Proofs.Ytibcgimggcdllaa
open Go.ChangeShapes Go.WideShapes Go.ChangeAt Go.RowKit
set_option linter.unusedVariables false
set_option linter.unusedSimpArgs false

set_option maxRecDepth 100000 in
set_option maxHeartbeats 2000000 in
theorem ft_sz1 (s o v : ByteArray) (k d x0 y0 z0 x1 y1 z1 ct dx dy dz : Int) (q : Int) (w : World) (hs : s.size ≤ maxLen) (ho : o.size ≤ maxLen) (hv : v.size ≤ maxLen) (q0 : 0 ≤ q) (q1 : q ≤ 1048576) :
    Calls Try.prog 20 #[.agg #[.string s, .string o, .string v, .int .i64 k, .int .i64 d, .int .i64 x0, .int .i64 y0, .int .i64 z0, .int .i64 x1, .int .i64 y1, .int .i64 z1, .int .i64 ct, .int .i64 dx, .int .i64 dy, .int .i64 dz], .int .i64 q] w fun e w' => (∃ r : Int, e = .returned (.int .i64 r) ∧ (0 ≤ r → r ≤ q ∧ (s.size : Int) ≤ q ∧ (o.size : Int) ≤ q ∧ (v.size : Int) ≤ q) ∧ -1 ≤ r) ∧ Below w.heap.size w w' := by
  unfold maxLen at hs ho hv
  have n0 : (0 : Int) ≤ (s.size : Int) := Int.natCast_nonneg _
  have n1 : (0 : Int) ≤ (o.size : Int) := Int.natCast_nonneg _
  have n2 : (0 : Int) ≤ (v.size : Int) := Int.natCast_nonneg _
  by_cases h : q - (s.size : Int) < 0
  · have t : decide (q - (s.size : Int) < 0) = true := decide_eq_true h
    go_enter Try.func20, Try.ntmps20
    go_wp2
    go_ret
    exact ⟨⟨-1, rfl, fun h => by omega, by omega⟩, ba (Below.refl _ _) _⟩
  have t : decide (q - (s.size : Int) < 0) = false := decide_eq_false h
  by_cases h2 : q - (s.size : Int) - (o.size : Int) < 0
  · have t2 : decide (q - (s.size : Int) - (o.size : Int) < 0) = true := decide_eq_true h2
    go_enter Try.func20, Try.ntmps20
    go_wp2
    go_ret
    exact ⟨⟨-1, rfl, fun h => by omega, by omega⟩, ba (Below.refl _ _) _⟩
  have t2 : decide (q - (s.size : Int) - (o.size : Int) < 0) = false := decide_eq_false h2
  by_cases h3 : q - (s.size : Int) - (o.size : Int) - (v.size : Int) < 0
  · have t3 : decide (q - (s.size : Int) - (o.size : Int) - (v.size : Int) < 0) = true := decide_eq_true h3
    go_enter Try.func20, Try.ntmps20
    go_wp2
    go_ret
    exact ⟨⟨-1, rfl, fun h => by omega, by omega⟩, ba (Below.refl _ _) _⟩
  have t3 : decide (q - (s.size : Int) - (o.size : Int) - (v.size : Int) < 0) = false := decide_eq_false h3
  go_enter Try.func20, Try.ntmps20
  go_wp2
  go_ret
  exact ⟨⟨_, rfl, fun h => by omega, by omega⟩, ba (Below.refl _ _) _⟩

set_option maxRecDepth 100000 in
set_option maxHeartbeats 2000000 in
theorem ft_sz (u : Option Addr) (p po n cu : Nat) (fs : List Ft) (w : World) (hl : fs.length = n) (hn : n ≤ 9223372036854775807) (hsz : ∀ f ∈ fs, f.nm.size ≤ maxLen ∧ f.on.size ≤ maxLen ∧ f.ov.size ≤ maxLen) (hu : SlG ftc 15 w u p po fs) :
    Calls Try.prog 9 #[.slice u n cu, .int .i64 1048576] w fun e w' => (∃ r : Int, e = .returned (.int .i64 r) ∧ (0 ≤ r → n ≤ 1048576 ∧ r ≤ 1048576)) ∧ Below w.heap.size w w' := by
  have HU := hide hu
  have HL := hide hl
  have HS := hide hsz
  clear hu hl hsz
  have n0 : (0 : Int) ≤ (n : Int) := Int.natCast_nonneg _
  by_cases hb : n ≤ 1048576
  · have t : decide ((1048576 : Int) - (n : Int) < 0) = false := decide_eq_false (by omega)
    go_enter Try.func9, Try.ntmps9
    go_wp2
    go_loopw [1, 5] (fun q s W => ∃ (i : Nat) (r : Int), q = .int .i64 r ∧ 0 ≤ r ∧ r ≤ 1048576 ∧ s = .int .i64 (i : Int) ∧ i ≤ n ∧ Below w.heap.size w W) (fun _ s _ => n - (intOf s).toNat)
    case atStart => exact ⟨0, _, rfl, by omega, by omega, rfl, Nat.zero_le _, Below.refl _ _⟩
    case round =>
      obtain ⟨i, r, rfl, hr0, hr1, rfl, hi, hw⟩ := hrel
      have HW := hide hw
      clear hw
      by_cases h : i < n
      · have i1 : (i : Int) < (n : Int) := by omega
        have i0 : (0 : Int) ≤ (i : Int) := Int.natCast_nonneg _
        have iz : decide ((i : Int) < (n : Int)) = true := decide_eq_true i1
        obtain ⟨f, hx⟩ := get_some (unhide HL) h
        obtain ⟨rfl, k0, k1, k2, k3, k4, k5, k6, k7, k8, k9, k10, k11, k12, k13, k14⟩ := ((unhide HU).bel (unhide HW)).at15 hx
        obtain ⟨a1, a2, a3⟩ := unhide HS f (List.mem_of_getElem? hx)
        have HZ := hide (fun W => ft_sz1 f.nm f.on f.ov f.kd f.sd f.x0 f.y0 f.z0 f.x1 f.y1 f.z1 f.ct f.dx f.dy f.dz r W a1 a2 a3 hr0 hr1)
        clear hx a1 a2 a3
        go_wp2_with fail
        refine (unhide HZ _).mono ?_
        rintro e W1 ⟨⟨r1, rfl, hr2, hr3⟩, hb1⟩
        have HW1 := hide (bc (unhide HW) hb1)
        clear hb1 k0 k1 k2 k3 k4 k5 k6 k7 k8 k9 k10 k11 k12 k13 k14
        by_cases hz : r1 < 0
        · have hzd : decide (r1 < 0) = true := decide_eq_true hz
          have HR2 := hide hr2
          clear hr2
          go_wp2_with fail
          go_ret
          exact ⟨⟨-1, rfl, fun h => by omega⟩, unhide HW1⟩
        · have hzd : decide (r1 < 0) = false := decide_eq_false hz
          have q1 := (hr2 (by omega)).1
          clear hr2
          go_wp2_with fail
          go_roundw
          case rel => exact ⟨i + 1, r1, rfl, by omega, by omega, by simp, h, unhide HW1⟩
          case measure => simp only [intOf]; omega
      · have i1 : ¬ (i : Int) < (n : Int) := by omega
        have iz : decide ((i : Int) < (n : Int)) = false := decide_eq_false i1
        go_wp2_with fail
        go_ret
        exact ⟨⟨_, rfl, fun _ => by first | exact ⟨hb, by omega⟩ | omega⟩, unhide HW⟩
  · have t : decide ((1048576 : Int) - (n : Int) < 0) = true := decide_eq_true (by omega)
    go_enter Try.func9, Try.ntmps9
    go_wp2
    go_ret
    exact ⟨⟨-1, rfl, fun h => by omega⟩, Below.refl _ _⟩
end Go.Proofs.Ytibcgimggcdllaa

namespace Go.Proofs.Ytibcgimggcdllaa
open Go.ChangeShapes Go.WideShapes Go.ChangeAt Go.RowKit
set_option linter.unusedVariables false
set_option linter.unusedSimpArgs false

/-- one byte as a text -/
theorem conv_one (x : Int) (W : World) (b : Nat) (h : W.cell? ⟨b, 0, none⟩ = some (.int .u8 x)) :
    Sem.run Try.prog (convert 22 9 (.slice (some ⟨b, 0, none⟩) 1 1)) W = .ok (.string ⟨#[UInt8.ofNat x.toNat]⟩) W := by
  rw [run_convert_bytes_string W 22 9 5 _ 1 1 Try.underlying22 Try.underlying5 Try.underlying9]
  rw [run_bytesToString W ⟨b, 0, none⟩ 1 1 [x] (by simp [loadCells, go_sem, h])]
  rfl
theorem ret_str {a b : ByteArray} (h : a = b) : Ending.returned (.string a) = .returned (.string b) := by rw [h]
def digB (k : Nat) : ByteArray := ⟨#[UInt8.ofNat (48 + k % 10)]⟩
/-- the digits of k ahead of what is there -/
def digF : Nat → Nat → ByteArray → ByteArray
  | 0, _, o => o
  | f + 1, k, o => if k = 0 then o else digF f (k / 10) (digB k ++ o)
def mkT (k : Nat) : ByteArray := (⟨#[109]⟩ : ByteArray) ++ digF k k ByteArray.empty
theorem digF_zero (f : Nat) (o : ByteArray) : digF f 0 o = o := by cases f <;> simp [digF]
theorem digF_fuel : ∀ (f g k : Nat) (o : ByteArray), k ≤ f → k ≤ g → digF f k o = digF g k o := by
  intro f
  induction f with
  | zero => intro g k o h1 h2; have : k = 0 := by omega
            subst this; rw [digF_zero, digF_zero]
  | succ f ih =>
    intro g k o h1 h2
    by_cases h : k = 0
    · subst h; rw [digF_zero, digF_zero]
    · cases g with
      | zero => omega
      | succ g =>
        simp only [digF, if_neg h]
        exact ih g (k / 10) _ (by omega) (by omega)
theorem digF_size : ∀ (f k : Nat) (o : ByteArray), (digF f k o).size ≤ o.size + f := by
  intro f
  induction f with
  | zero => intro k o; exact Nat.le_refl _
  | succ f ih =>
    intro k o
    simp only [digF]
    split
    · omega
    · have := ih (k / 10) (digB k ++ o)
      rw [ByteArray.size_append] at this
      have e : (digB k).size = 1 := rfl
      omega

set_option maxHeartbeats 1000000 in
theorem mkText_any (k : Nat) (w : World) (h0 : 0 < k) (h1 : k ≤ 100000000) : Calls Try.prog 30 #[.int .i64 (k : Int)] w fun e w' => e = .returned (.string (mkT k)) ∧ Below w.heap.size w w' := by
  have hk : decide ((k : Int) ≤ 0) = false := decide_eq_false (by omega)
  go_enter Try.func30, Try.ntmps30
  go_wp2
  go_loopw [0, 3] (fun z s W => ∃ (j : Nat) (o : ByteArray), z = .int .i64 (j : Int) ∧ s = .string o ∧ j ≤ k ∧ o.size + j ≤ k ∧ digF j j o = digF k k ByteArray.empty ∧ Below w.heap.size w W) (fun z _ _ => (intOf z).toNat)
  case atStart => exact ⟨k, ByteArray.empty, rfl, rfl, Nat.le_refl _, by simp, rfl, Below.refl _ _⟩
  case round =>
    obtain ⟨j, o, rfl, rfl, hj, ho, hd, hw⟩ := hrel
    have HW := hide hw
    have HD := hide hd
    clear hw hd
    by_cases h : 0 < j
    · have j1 : decide ((0 : Int) < (j : Int)) = true := decide_eq_true (by omega)
      have j2 : (0 : Int) < (j : Int) := by omega
      have hcv := conv_one (48 + (j : Int) % 10) (wr.alloc (.cells #[.int .u8 (48 + (j : Int) % 10)] 5)) wr.heap.size (by simp [go_sem])
      have e8 : (⟨#[UInt8.ofNat (48 + (j : Int) % 10).toNat]⟩ : ByteArray) = digB j := by
        unfold digB
        rw [show (48 + (j : Int) % 10).toNat = 48 + j % 10 by omega]
      rw [e8] at hcv
      have sz : (digB j).size = 1 := rfl
      go_wp2_with fail
      go_roundw
      case rel =>
        refine ⟨j / 10, digB j ++ o, by simp, rfl, by omega, ?_, ?_, ba (unhide HW) _⟩
        · rw [ByteArray.size_append, sz]; omega
        · rw [← unhide HD]
          cases j with
          | zero => omega
          | succ j =>
            show _ = digF (j + 1) (j + 1) o
            simp only [digF, if_neg (Nat.succ_ne_zero j)]
            exact digF_fuel _ _ _ _ (by omega) (by omega)
      case measure => simp only [intOf]; omega
    · have j1 : decide ((0 : Int) < (j : Int)) = false := decide_eq_false (by omega)
      have j2 : ¬ (0 : Int) < (j : Int) := by omega
      have ej : j = 0 := by omega
      subst ej
      have e : o = digF k k ByteArray.empty := by have := unhide HD; rwa [digF_zero] at this
      subst e
      go_wp2_with fail
      go_ret
      exact ⟨rfl, unhide HW⟩
end Go.Proofs.Ytibcgimggcdllaa

namespace Go.Proofs.Ytibcgimggcdllaa
open Go.ChangeShapes Go.WideShapes Go.ChangeAt Go.RowKit
set_option linter.unusedVariables false
set_option linter.unusedSimpArgs false

/-- all that was there but one block is as it was -/
structure Mw (g : Nat) (w w' : World) : Prop where
  os : w'.os = w.os
  tape : w'.tape = w.tape
  output : w'.output = w.output
  size : w.heap.size ≤ w'.heap.size
  block : ∀ k, k < w.heap.size → k ≠ g → w'.heap[k]? = w.heap[k]?
theorem Mw.refl (g : Nat) (w : World) : Mw g w w := ⟨rfl, rfl, rfl, Nat.le_refl _, fun _ _ _ => rfl⟩
theorem Mw.bel {g : Nat} {a w w' : World} (h : Mw g a w) (hb : Below w.heap.size w w') : Mw g a w' :=
  ⟨hb.os.trans h.os, hb.tape.trans h.tape, hb.output.trans h.output, Nat.le_trans h.size hb.size, fun k hk hg => (hb.block k (Nat.lt_of_lt_of_le hk h.size)).trans (h.block k hk hg)⟩
theorem Mw.set {g : Nat} {a w : World} (h : Mw g a w) (o : Nat) (v : Value) : Mw g a (w.setCell ⟨g, o, none⟩ v) :=
  ⟨h.os, h.tape, h.output, by simpa [World.setCell] using h.size, fun k hk hg => (Below.heap_setCell _ _ _ _ hg).trans (h.block k hk hg)⟩
theorem Mw.below {g B : Nat} {w w' : World} (h : Mw g w w') (hB : B ≤ g) (hs : B ≤ w.heap.size) : Below B w w' :=
  ⟨h.os, h.tape, h.output, h.size, fun k hk => h.block k (by omega) (by omega)⟩
theorem cells15 {w : World} {p t n i : Nat} {L : List Value} (hv : vb w p t L) (hl : L.length = n * 15) (h : i < n) {j : Nat} (hj : j < 15) : ∃ v, w.cell? ⟨p, i * 15 + j, none⟩ = some v := by
  have hx : i * 15 + j < L.length := by rw [hl]; omega
  exact ⟨_, hv.cell (List.getElem?_eq_getElem hx)⟩
set_option maxRecDepth 100000 in
set_option maxHeartbeats 4000000 in
theorem ft_mark (u : Option Addr) (p n cu c : Nat) (L : List Value) (w : World) (hl : L.length = n * 15) (hn : n ≤ 1048576) (c0 : 0 < c) (c1 : c ≤ 1000000) (hu : u = some ⟨p, 0, none⟩) (hv : vb w p 53 L) :
    Calls Try.prog 14 #[.slice u n cu, .int .i64 (c : Int)] w fun e w' => e = .returned (.int .i64 ((c : Int) + 15 * (n : Int))) ∧ Mw p w w' := by
  subst hu
  have HV := hide hv
  have HL := hide hl
  clear hv hl
  go_enter Try.func14, Try.ntmps14
  go_wp2
  go_loopw [1, 5] (fun s t W => ∃ (i : Nat) (L : List Value), s = .int .i64 ((c : Int) + 15 * (i : Int)) ∧ t = .int .i64 (i : Int) ∧ i ≤ n ∧ L.length = n * 15 ∧ vb W p 53 L ∧ Mw p w W) (fun _ s _ => n - (intOf s).toNat)
  case atStart => exact ⟨0, L, by simp, rfl, Nat.zero_le _, unhide HL, unhide HV, Mw.refl _ _⟩
  case round =>
    clear HV HL L
    obtain ⟨i, L, rfl, rfl, hi, hl, hb, hw⟩ := hrel
    have HB := hide hb
    have HW := hide hw
    clear hb hw
    by_cases h : i < n
    · have i1 : (i : Int) < (n : Int) := by omega
      have i0 : (0 : Int) ≤ (i : Int) := Int.natCast_nonneg _
      have iz : decide ((i : Int) < (n : Int)) = true := decide_eq_true i1
      have K0 := hide (fun W => mkText_any (c + 15 * i) W (by omega) (by omega))
      have K1 := hide (fun W => mkText_any (c + 15 * i + 1) W (by omega) (by omega))
      have K2 := hide (fun W => mkText_any (c + 15 * i + 2) W (by omega) (by omega))
      rw [show (((c + 15 * i : Nat) : Int)) = (c : Int) + 15 * (i : Int) by omega] at K0
      rw [show (((c + 15 * i + 1 : Nat) : Int)) = (c : Int) + 15 * (i : Int) + 1 by omega] at K1
      rw [show (((c + 15 * i + 2 : Nat) : Int)) = (c : Int) + 15 * (i : Int) + 1 + 1 by omega] at K2
      generalize mkT (c + 15 * i) = s0 at *
      generalize mkT (c + 15 * i + 1) = s1 at *
      generalize mkT (c + 15 * i + 2) = s2 at *
      go_wp2_with fail
      refine (unhide K0 _).mono ?_
      rintro e W1 ⟨rfl, hb1⟩
      have pb1 := (unhide HB).bel hb1
      have HW1 := hide ((unhide HW).bel hb1)
      obtain ⟨v0, e0⟩ := cells15 pb1 hl h (j := 0) (by omega)
      rw [Nat.add_zero] at e0
      have fz1 : ∀ q, W1.frozen? ⟨p, q, none⟩ = false := pb1.frozen
      have P1 := hide (pb1.set (i * 15) (.string s0))
      clear hb1 pb1
      go_wp2_with fail
      refine (unhide K1 _).mono ?_
      rintro e W2 ⟨rfl, hb2⟩
      have pb2 := (unhide P1).bel hb2
      have HW2 := hide (((unhide HW1).set (i * 15) (.string s0)).bel hb2)
      obtain ⟨v1, e1⟩ := cells15 pb2 (n := n) (by rw [List.length_set]; exact hl) h (j := 1) (by omega)
      have fz2 : ∀ q, W2.frozen? ⟨p, q, none⟩ = false := pb2.frozen
      have P2 := hide (pb2.set (i * 15 + 1) (.string s1))
      clear hb2 pb2 e0 fz1
      go_wp2_with fail
      refine (unhide K2 _).mono ?_
      rintro e W3 ⟨rfl, hb3⟩
      have pb3 := (unhide P2).bel hb3
      have HW3 := hide (((unhide HW2).set (i * 15 + 1) (.string s1)).bel hb3)
      have hl3 : ((L.set (i * 15) (Value.string s0)).set (i * 15 + 1) (.string s1)).length = n * 15 := by rw [List.length_set, List.length_set]; exact hl
      obtain ⟨v2, e2⟩ := cells15 pb3 hl3 h (j := 2) (by omega)
      obtain ⟨v3, e3⟩ := cells15 pb3 hl3 h (j := 3) (by omega)
      obtain ⟨v4, e4⟩ := cells15 pb3 hl3 h (j := 4) (by omega)
      obtain ⟨v5, e5⟩ := cells15 pb3 hl3 h (j := 5) (by omega)
      obtain ⟨v6, e6⟩ := cells15 pb3 hl3 h (j := 6) (by omega)
      obtain ⟨v7, e7⟩ := cells15 pb3 hl3 h (j := 7) (by omega)
      obtain ⟨v8, e8⟩ := cells15 pb3 hl3 h (j := 8) (by omega)
      obtain ⟨v9, e9⟩ := cells15 pb3 hl3 h (j := 9) (by omega)
      obtain ⟨v10, e10⟩ := cells15 pb3 hl3 h (j := 10) (by omega)
      obtain ⟨v11, e11⟩ := cells15 pb3 hl3 h (j := 11) (by omega)
      obtain ⟨v12, e12⟩ := cells15 pb3 hl3 h (j := 12) (by omega)
      obtain ⟨v13, e13⟩ := cells15 pb3 hl3 h (j := 13) (by omega)
      obtain ⟨v14, e14⟩ := cells15 pb3 hl3 h (j := 14) (by omega)
      have fz3 : ∀ q, W3.frozen? ⟨p, q, none⟩ = false := pb3.frozen
      have P3 := hide pb3
      clear hb3 pb3 e1 fz2
      go_wp2_with fail
      go_roundw
      case rel =>
        refine ⟨i + 1, _, by simp only [Value.int.injEq, true_and]; omega, by simp, h, ?_, (((((((((((((unhide P3).set (i * 15 + 2) _).set (i * 15 + 3) _).set (i * 15 + 4) _).set (i * 15 + 5) _).set (i * 15 + 6) _).set (i * 15 + 7) _).set (i * 15 + 8) _).set (i * 15 + 9) _).set (i * 15 + 10) _).set (i * 15 + 11) _).set (i * 15 + 12) _).set (i * 15 + 13) _).set (i * 15 + 14) _, (((((((((((((unhide HW3).set _ _).set _ _).set _ _).set _ _).set _ _).set _ _).set _ _).set _ _).set _ _).set _ _).set _ _).set _ _).set _ _⟩
        simp only [List.length_set]
        exact hl
      case measure => simp only [intOf]; omega
    · have i1 : ¬ (i : Int) < (n : Int) := by omega
      have iz : decide ((i : Int) < (n : Int)) = false := decide_eq_false i1
      have en : i = n := by omega
      subst en
      go_wp2_with fail
      go_ret
      exact ⟨rfl, unhide HW⟩
end Go.Proofs.Ytibcgimggcdllaa

namespace Go.Proofs.Ytibcgimggcdllaa
open Go.ChangeShapes Go.WideShapes Go.ChangeAt Go.RowKit Go.Deep
set_option linter.unusedVariables false
set_option linter.unusedSimpArgs false

theorem addr_add_none (p po j : Nat) : (⟨p, po, none⟩ : Addr).add j = ⟨p, po + j, none⟩ := by
  unfold Addr.add
  split <;> simp_all
def bytesOf : Value → ByteArray
  | .string s => s
  | _ => ByteArray.empty
theorem one_at {cs : List Value} {o : Nat} {v : Value} (h : (cs.drop o).take 1 = [v]) : cs[o]? = some v := by
  have h5 : ((cs.drop o).take 1)[0]? = some v := by rw [h]; rfl
  simpa [List.getElem?_take, List.getElem?_drop] using h5
theorem cells3 : Try.prog.cellsOf 3 = 1 := by kernel_rfl
theorem cells9 : Try.prog.cellsOf 9 = 1 := by kernel_rfl
theorem cells39 : Try.prog.cellsOf 43 = 6 := by kernel_rfl
theorem cells41 : Try.prog.cellsOf 45 = 15 := by kernel_rfl
theorem open_fts {H : Type} {enc : TypeId × Value → H} {w : World} {base : Nat} {spare : Nat → Bool} {held : Bool} {fuel : Nat} {cs : List Value} {x : DataW H × List MemPlace}
    (h : DataW.trod enc Try.prog w base spare held fuel 27 cs = some x) :
    ∃ (u : Option Addr) (n cap p po : Nat) (fs : List Ft), cs = [.slice u n cap] ∧ n ≤ 9223372036854775807 ∧ fs.length = n ∧ (∀ f ∈ fs, f.nm.size ≤ maxLen ∧ f.on.size ≤ maxLen ∧ f.ov.size ≤ maxLen) ∧ SlG ftc 15 w u p po fs := by
  rcases open_slice Try.underlying27 h with ⟨rfl, _⟩ | ⟨a, len, cap, m, n, D, Pl, rfl, hb, hl, hm, hmm, _, hx⟩
  · exact ⟨none, 0, 0, 0, 0, [], rfl, by omega, rfl, by simp, fun h => absurd rfl h⟩
  have hlm : len ≤ m := by rw [hmm]; split <;> omega
  have each : ∀ i, i < len → ∃ f : Ft, (f.nm.size ≤ maxLen ∧ f.on.size ≤ maxLen ∧ f.ov.size ≤ maxLen) ∧ ∀ (j : Nat) (v : Value), (ftc f)[j]? = some v → w.cell? (a.add (i * 15 + j)) = some v := by
    intro i hi
    obtain ⟨cs', h1, h2⟩ := hx i (by omega)
    rw [cells41] at h1
    obtain ⟨_, hlen, hcell⟩ := World.cells?_some h1
    obtain ⟨xs, q, _, _, _, hxl, hff⟩ := DataW.trod_struct Try.underlying45 h2
    have hxl' : xs.length = 10 := by simpa using hxl
    have g : ∀ j, j < 10 → ∃ y, xs[j]? = some y := fun j hj => ⟨xs[j]'(by omega), List.getElem?_eq_getElem _⟩
    obtain ⟨q0, e0⟩ := g 0 (by omega)
    have t0 : DataW.trod enc Try.prog w base spare held q 9 ((cs'.drop 0).take (Try.prog.cellsOf 9)) = xs[0]? := hff 0 _ rfl
    rw [e0] at t0
    obtain ⟨a0, hy0, _, hs0⟩ := DataW.trod_string Try.underlying9 t0
    rw [cells9] at hy0
    have c0 := one_at hy0
    obtain ⟨q1, e1⟩ := g 1 (by omega)
    have t1 : DataW.trod enc Try.prog w base spare held q 9 ((cs'.drop 1).take (Try.prog.cellsOf 9)) = xs[1]? := hff 1 _ rfl
    rw [e1] at t1
    obtain ⟨a1, hy1, _, hs1⟩ := DataW.trod_string Try.underlying9 t1
    rw [cells9] at hy1
    have c1 := one_at hy1
    obtain ⟨q2, e2⟩ := g 2 (by omega)
    have t2 : DataW.trod enc Try.prog w base spare held q 9 ((cs'.drop 2).take (Try.prog.cellsOf 9)) = xs[2]? := hff 2 _ rfl
    rw [e2] at t2
    obtain ⟨a2, hy2, _, hs2⟩ := DataW.trod_string Try.underlying9 t2
    rw [cells9] at hy2
    have c2 := one_at hy2
    obtain ⟨q3, e3⟩ := g 3 (by omega)
    have t3 : DataW.trod enc Try.prog w base spare held q 3 ((cs'.drop 3).take (Try.prog.cellsOf 3)) = xs[3]? := hff 3 _ rfl
    rw [e3] at t3
    obtain ⟨b3, hy3, _, _⟩ := DataW.trod_int Try.underlying3 t3
    rw [cells3] at hy3
    have c3 := one_at hy3
    obtain ⟨q4, e4⟩ := g 4 (by omega)
    have t4 : DataW.trod enc Try.prog w base spare held q 3 ((cs'.drop 4).take (Try.prog.cellsOf 3)) = xs[4]? := hff 4 _ rfl
    rw [e4] at t4
    obtain ⟨b4, hy4, _, _⟩ := DataW.trod_int Try.underlying3 t4
    rw [cells3] at hy4
    have c4 := one_at hy4
    obtain ⟨q6, e6⟩ := g 6 (by omega)
    have t6 : DataW.trod enc Try.prog w base spare held q 3 ((cs'.drop 11).take (Try.prog.cellsOf 3)) = xs[6]? := hff 6 _ rfl
    rw [e6] at t6
    obtain ⟨b11, hy6, _, _⟩ := DataW.trod_int Try.underlying3 t6
    rw [cells3] at hy6
    have c11 := one_at hy6
    obtain ⟨q7, e7⟩ := g 7 (by omega)
    have t7 : DataW.trod enc Try.prog w base spare held q 3 ((cs'.drop 12).take (Try.prog.cellsOf 3)) = xs[7]? := hff 7 _ rfl
    rw [e7] at t7
    obtain ⟨b12, hy7, _, _⟩ := DataW.trod_int Try.underlying3 t7
    rw [cells3] at hy7
    have c12 := one_at hy7
    obtain ⟨q8, e8⟩ := g 8 (by omega)
    have t8 : DataW.trod enc Try.prog w base spare held q 3 ((cs'.drop 13).take (Try.prog.cellsOf 3)) = xs[8]? := hff 8 _ rfl
    rw [e8] at t8
    obtain ⟨b13, hy8, _, _⟩ := DataW.trod_int Try.underlying3 t8
    rw [cells3] at hy8
    have c13 := one_at hy8
    obtain ⟨q9, e9⟩ := g 9 (by omega)
    have t9 : DataW.trod enc Try.prog w base spare held q 3 ((cs'.drop 14).take (Try.prog.cellsOf 3)) = xs[9]? := hff 9 _ rfl
    rw [e9] at t9
    obtain ⟨b14, hy9, _, _⟩ := DataW.trod_int Try.underlying3 t9
    rw [cells3] at hy9
    have c14 := one_at hy9
    obtain ⟨q5, e5⟩ := g 5 (by omega)
    have t5 : DataW.trod enc Try.prog w base spare held q 43 ((cs'.drop 5).take (Try.prog.cellsOf 43)) = xs[5]? := hff 5 _ rfl
    rw [e5] at t5
    obtain ⟨ys, r, _, _, _, hyl, hgg⟩ := DataW.trod_struct Try.underlying43 t5
    have hyl' : ys.length = 6 := by simpa using hyl
    have g6 : ∀ j, j < 6 → ∃ y, ys[j]? = some y := fun j hj => ⟨ys[j]'(by omega), List.getElem?_eq_getElem _⟩
    obtain ⟨p0, f0⟩ := g6 0 (by omega)
    have s0 : DataW.trod enc Try.prog w base spare held r 3 ((((cs'.drop 5).take (Try.prog.cellsOf 43)).drop 0).take (Try.prog.cellsOf 3)) = ys[0]? := hgg 0 _ rfl
    rw [f0] at s0
    obtain ⟨d0, hz0, _, _⟩ := DataW.trod_int Try.underlying3 s0
    rw [cells3, cells39] at hz0
    have c5 : cs'[5]? = some (.int .i64 d0) := by
      have h7 := one_at hz0
      rw [List.getElem?_take, if_pos (by omega), List.getElem?_drop] at h7
      exact h7
    obtain ⟨p1, f1⟩ := g6 1 (by omega)
    have s1 : DataW.trod enc Try.prog w base spare held r 3 ((((cs'.drop 5).take (Try.prog.cellsOf 43)).drop 1).take (Try.prog.cellsOf 3)) = ys[1]? := hgg 1 _ rfl
    rw [f1] at s1
    obtain ⟨d1, hz1, _, _⟩ := DataW.trod_int Try.underlying3 s1
    rw [cells3, cells39] at hz1
    have c6 : cs'[6]? = some (.int .i64 d1) := by
      have h7 := one_at hz1
      rw [List.getElem?_take, if_pos (by omega), List.getElem?_drop] at h7
      exact h7
    obtain ⟨p2, f2⟩ := g6 2 (by omega)
    have s2 : DataW.trod enc Try.prog w base spare held r 3 ((((cs'.drop 5).take (Try.prog.cellsOf 43)).drop 2).take (Try.prog.cellsOf 3)) = ys[2]? := hgg 2 _ rfl
    rw [f2] at s2
    obtain ⟨d2, hz2, _, _⟩ := DataW.trod_int Try.underlying3 s2
    rw [cells3, cells39] at hz2
    have c7 : cs'[7]? = some (.int .i64 d2) := by
      have h7 := one_at hz2
      rw [List.getElem?_take, if_pos (by omega), List.getElem?_drop] at h7
      exact h7
    obtain ⟨p3, f3⟩ := g6 3 (by omega)
    have s3 : DataW.trod enc Try.prog w base spare held r 3 ((((cs'.drop 5).take (Try.prog.cellsOf 43)).drop 3).take (Try.prog.cellsOf 3)) = ys[3]? := hgg 3 _ rfl
    rw [f3] at s3
    obtain ⟨d3, hz3, _, _⟩ := DataW.trod_int Try.underlying3 s3
    rw [cells3, cells39] at hz3
    have c8 : cs'[8]? = some (.int .i64 d3) := by
      have h7 := one_at hz3
      rw [List.getElem?_take, if_pos (by omega), List.getElem?_drop] at h7
      exact h7
    obtain ⟨p4, f4⟩ := g6 4 (by omega)
    have s4 : DataW.trod enc Try.prog w base spare held r 3 ((((cs'.drop 5).take (Try.prog.cellsOf 43)).drop 4).take (Try.prog.cellsOf 3)) = ys[4]? := hgg 4 _ rfl
    rw [f4] at s4
    obtain ⟨d4, hz4, _, _⟩ := DataW.trod_int Try.underlying3 s4
    rw [cells3, cells39] at hz4
    have c9 : cs'[9]? = some (.int .i64 d4) := by
      have h7 := one_at hz4
      rw [List.getElem?_take, if_pos (by omega), List.getElem?_drop] at h7
      exact h7
    obtain ⟨p5, f5⟩ := g6 5 (by omega)
    have s5 : DataW.trod enc Try.prog w base spare held r 3 ((((cs'.drop 5).take (Try.prog.cellsOf 43)).drop 5).take (Try.prog.cellsOf 3)) = ys[5]? := hgg 5 _ rfl
    rw [f5] at s5
    obtain ⟨d5, hz5, _, _⟩ := DataW.trod_int Try.underlying3 s5
    rw [cells3, cells39] at hz5
    have c10 : cs'[10]? = some (.int .i64 d5) := by
      have h7 := one_at hz5
      rw [List.getElem?_take, if_pos (by omega), List.getElem?_drop] at h7
      exact h7
    refine ⟨⟨a0, a1, a2, b3, b4, d0, d1, d2, d3, d4, d5, b11, b12, b13, b14⟩, ⟨hs0, hs1, hs2⟩, fun j v hj => ?_⟩
    have hjl : j < 15 := by have := (List.getElem?_eq_some_iff.1 hj).1; rw [ftc_len] at this; exact this
    have hcs : cs'[j]? = some v := by
      rw [← hj]
      match j, hjl with
      | 0, _ => exact c0
      | 1, _ => exact c1
      | 2, _ => exact c2
      | 3, _ => exact c3
      | 4, _ => exact c4
      | 5, _ => exact c5
      | 6, _ => exact c6
      | 7, _ => exact c7
      | 8, _ => exact c8
      | 9, _ => exact c9
      | 10, _ => exact c10
      | 11, _ => exact c11
      | 12, _ => exact c12
      | 13, _ => exact c13
      | 14, _ => exact c14
    rw [← hcs, ← hcell j hjl, add_add]
  have hmx : len ≤ 9223372036854775807 := by unfold maxLen at hm; omega
  by_cases hn : len = 0
  · subst hn
    exact ⟨some a, 0, cap, 0, 0, [], rfl, by omega, rfl, by simp, fun h => absurd rfl h⟩
  obtain ⟨p, po, sp⟩ := a
  have hsp : sp = none := by
    obtain ⟨f, _, hy⟩ := each 0 (by omega)
    have hy := hy 0 _ rfl
    cases sp with
    | none => rfl
    | some s =>
      simp only [Addr.add, World.cell?] at hy
      split at hy <;> simp at hy
  subst hsp
  have hex : ∃ fs : List Ft, fs.length = len ∧ (∀ f ∈ fs, f.nm.size ≤ maxLen ∧ f.on.size ≤ maxLen ∧ f.ov.size ≤ maxLen) ∧ ∀ (i : Nat) (f : Ft), fs[i]? = some f → ∀ (j : Nat) (v : Value), (ftc f)[j]? = some v → w.cell? ((⟨p, po, none⟩ : Addr).add (i * 15 + j)) = some v := by
    have : ∀ k, k ≤ len → ∃ fs : List Ft, fs.length = k ∧ (∀ f ∈ fs, f.nm.size ≤ maxLen ∧ f.on.size ≤ maxLen ∧ f.ov.size ≤ maxLen) ∧ ∀ (i : Nat) (f : Ft), fs[i]? = some f → ∀ (j : Nat) (v : Value), (ftc f)[j]? = some v → w.cell? ((⟨p, po, none⟩ : Addr).add (i * 15 + j)) = some v := by
      intro k
      induction k with
      | zero => intro _; exact ⟨[], rfl, by simp, by simp⟩
      | succ k ih =>
        intro hk
        obtain ⟨fs, h1, h2, h3⟩ := ih (by omega)
        obtain ⟨f, h4, h5⟩ := each k (by omega)
        refine ⟨fs ++ [f], by simp [h1], ?_, ?_⟩
        · intro x hx
          rcases List.mem_append.1 hx with e | e
          · exact h2 x e
          · simp only [List.mem_singleton] at e; subst e; exact h4
        · intro i x hi j v hj
          by_cases e : i < k
          · rw [List.getElem?_append_left (by omega)] at hi
            exact h3 i x hi j v hj
          · rw [List.getElem?_append_right (by omega)] at hi
            have e0 : i - fs.length = 0 := by
              rcases Nat.eq_zero_or_pos (i - fs.length) with e | e
              · exact e
              · rw [List.getElem?_eq_none (by simp; omega)] at hi; cases hi
            rw [e0] at hi
            cases hi
            have ei : i = k := by omega
            subst ei
            exact h5 j v hj
    exact this len (Nat.le_refl _)
  obtain ⟨fs, h1, h2, h3⟩ := hex
  refine ⟨_, len, cap, p, po, fs, rfl, hmx, h1, h2, fun _ => ⟨rfl, ?_, ?_⟩⟩
  · obtain ⟨f, _, h0⟩ := each 0 (by omega)
    have h0 := h0 0 _ rfl
    rw [addr_add_none] at h0
    exact cell_lt h0
  · intro i f hi j v hj
    have := h3 i f hi j v hj
    rw [addr_add_none, ← Nat.add_assoc] at this
    exact this
end Go.Proofs.Ytibcgimggcdllaa

namespace Go.Proofs.Ytibcgimggcdllaa
open Go.ChangeShapes Go.WideShapes Go.ChangeAt Go.RowKit Go.Joins
set_option linter.unusedVariables false
set_option linter.unusedSimpArgs false

theorem fbL_len {fs : List Ft} {c : Int} {ab : List ByteArray} (h : Chk fs c ab) : (fbL fs c).length ≤ 10000 := by
  unfold fbL
  split
  · rename_i e
    subst e
    have hf := h.zero.1
    have h1 := recs_len (fs := fs) (fun f hf' => frs_of (hf.right f hf'))
    have h2 := hf.len
    simp only [fileL, List.length_append, headL, two, List.length_cons, List.length_nil]
    omega
  · simp
theorem Rb.mw {w w' : World} {B g n : Nat} {v : Value} {L : List Int} (h : Rb w B v n L) (hm : Mw g w w') (hg : g < B) : Rb w' B v n L :=
  own_kept h (fun k hk => by have := own_ge h k hk; exact hm.block k this.2 (by omega))
set_option maxRecDepth 100000 in
set_option maxHeartbeats 4000000 in
theorem fnExactFileBytes_walk (u : Option Addr) (n cap p po : Nat) (fs : List Ft) (w : World) (hn : n ≤ 9223372036854775807) (hl : fs.length = n) (hr : (∀ f ∈ fs, f.nm.size ≤ maxLen ∧ f.on.size ≤ maxLen ∧ f.ov.size ≤ maxLen) ∧ SlG ftc 15 w u p po fs) :
    Calls Try.prog 4 #[.slice u n cap] w fun e w' => e = .returned (.bool true) ∧ Below w.heap.size w w' := by
  obtain ⟨hs, hu⟩ := hr
  have HSZ := hide (ft_sz u p po n cap fs w hl hn hs hu)
  have HT := hide (fun (hb : n ≤ 1048576) X (hX : Below w.heap.size w X) => ft_to u p po n cap fs X hl hb (hu.bel hX))
  have HM := hide (fun (hb : n ≤ 1048576) g X (hX : vb X g 53 (flatG ftc fs)) => fbM_any (some ⟨g, 0, none⟩) g 0 n n fs X hl hb (Nat.le_refl _) hs (hX.slG ftc_len))
  have HP := hide (fun (hb : n ≤ 1048576) g X (hX : vb X g 53 (flatG ftc fs)) => fbP_any (some ⟨g, 0, none⟩) g 0 n n fs X hl hb hs (hX.slG ftc_len))
  have HE := hide (fun (hb : n ≤ 1048576) g g' X (hX : vb X g 53 (flatG ftc fs)) (hY : vb X g' 53 (flatG ftc fs)) => ft_same (some ⟨g, 0, none⟩) (some ⟨g', 0, none⟩) g 0 g' 0 n n n fs X hl hb (hX.slG ftc_len) (hY.slG ftc_len))
  have HFL : Hid ((flatG ftc fs).length = n * 15) := hide (by rw [flatG_len ftc_len, hl])
  clear hu hs hl
  go_enter Try.func4, Try.ntmps4
  go_wp2_with fail
  refine (unhide HSZ).mono ?_
  rintro e W0 ⟨⟨r, rfl, hr⟩, hb0⟩
  have HB0 := hide hb0
  clear hb0 HSZ
  by_cases hz : r < 0
  · have t : decide (r < 0) = true := decide_eq_true hz
    clear hr
    go_wp2_with fail
    go_ret
    exact ⟨rfl, unhide HB0⟩
  have t : decide (r < 0) = false := decide_eq_false hz
  have hb : n ≤ 1048576 := (hr (by omega)).1
  have HT := hide (unhide HT hb)
  have HM := hide (unhide HM hb)
  have HP := hide (unhide HP hb)
  have HE := hide (unhide HE hb)
  clear hr
  go_wp2_with fail
  refine (unhide HT _ (unhide HB0)).mono ?_
  rintro e W1 ⟨⟨g1, rfl, hg1, hk1⟩, hb1⟩
  have K1 := hide (bc (unhide HB0) hb1)
  have K2 := hide (hk1)
  clear hb1 hk1 hg1
  go_wp2_with fail
  refine (unhide HM _ _ (unhide K2)).mono ?_
  rintro e W2 ⟨⟨v1, c, ab, N1, rfl, hck, hr2⟩, hb2⟩
  have K3 := hide (bc (unhide K1) hb2)
  have hlen := fbL_len hck
  have HPX : Hid (∀ g X, vb X g 53 (flatG ftc fs) → Calls Try.prog 12 #[.slice (some ⟨g, 0, none⟩) n n] X fun e w' => (∃ a k, e = .returned (.tuple #[.slice a (fbL fs c).length k, .int .i64 c]) ∧ Rb w' X.heap.size (.slice a (fbL fs c).length k) (fbL fs c).length (fbL fs c)) ∧ Below X.heap.size X w') := hide (fun g X hX => (unhide HP g X hX).mono (by
    rintro e w' ⟨⟨v, c', ab', N, rfl, hck', hr'⟩, hb'⟩
    obtain ⟨rfl, _⟩ := hck'.uniq hck
    have eN := hr'.len
    obtain ⟨a, k, rfl, _⟩ := own_form hr'
    rw [← eN] at hr' ⊢
    exact ⟨⟨a, k, rfl, hr'⟩, hb'⟩))
  have eN1 := hr2.len
  obtain ⟨a1, k1, rfl, _⟩ := own_form hr2
  obtain ⟨p1, hsl1, hp1⟩ := hr2.slG
  have HMB : Hid (∀ W, Below W2.heap.size W2 W → SlG byc 1 W a1 p1 0 (fbL fs c)) := hide (fun W hW => hsl1.bel hW)
  generalize fbL fs c = L at *
  have HPX2 := HPX
  obtain ⟨N, hN⟩ : ∃ N, L.length = N := ⟨_, rfl⟩
  rw [hN] at HPX2 hlen eN1
  subst eN1
  have HLN := hide hN
  have HSB := hide (fun (a b : Option Addr) (q1 q2 j1 j2 : Nat) (W : World) (ha : SlG byc 1 W a q1 0 L) (hb' : SlG byc 1 W b q2 0 L) => by_same a b q1 0 q2 0 N j1 j2 L W hN (by omega) ha hb')
  have cc : (c != c) = false := by simp
  have n0 : (0 : Int) ≤ (N : Int) := Int.natCast_nonneg _
  clear hck hr2 hsl1 hp1 hN HPX HP HM hb2
  have HBW2 := K3
  have KD : Hid (Below W2.heap.size W2 W2) := hide (Below.refl _ _)
  go_wp2_with fail
  refine (unhide HT _ (unhide K3)).mono ?_
  rintro e W3 ⟨⟨g2, rfl, hg2, hk2⟩, hb3⟩
  have K4 := hide (bc (unhide K3) hb3)
  have K5 := hide ((unhide KD).trans (hb3.mono (unhide KD).size))
  have K6 := hide (hk2)
  have HG2 : Hid (W2.heap.size ≤ g2 ∧ g2 < W3.heap.size) := hide ⟨hg2, hk2.lt⟩
  have HG0 : Hid (w.heap.size ≤ W2.heap.size) := hide (by have h1 := (unhide K4).size; have h2 := hb3.size; have h3 := (unhide HBW2).size; omega)
  clear hb3 hk2 hg2
  go_wp2_with fail
  refine (unhide HPX2 _ _ (unhide K6)).mono ?_
  rintro e W4 ⟨⟨a2, k2, rfl, hr4⟩, hb4⟩
  have HZ4 := hide hb4.size
  have K7 := hide (bc (unhide K4) hb4)
  have K8 := hide ((unhide K5).trans (hb4.mono (unhide K5).size))
  have K9 := hide ((unhide K6).bel hb4)
  have K10 := hide (hr4)
  clear hb4 hr4
  obtain ⟨q2, hq2, _⟩ := (unhide K10).slG
  have HQ2 := hide hq2
  clear hq2
  go_wp2_with fail
  refine (unhide HSB a2 a1 _ _ k2 k1 _ (unhide HQ2) (unhide HMB _ (unhide K8))).mono ?_
  rintro e W5 ⟨rfl, hb⟩
  have HZ5 := hide (Nat.le_trans (unhide HZ4) hb.size)
  have K11 := hide (bc (unhide K7) hb)
  have K12 := hide ((unhide K8).trans (hb.mono (unhide K8).size))
  have K13 := hide ((unhide K9).bel hb)
  have K14 := hide ((unhide K10).bel hb)
  clear hb HQ2
  go_wp2_with fail
  refine (unhide HT _ (unhide K11)).mono ?_
  rintro e W6 ⟨⟨g3, rfl, hg3, hk3⟩, hb⟩
  have HZ6 := hide (Nat.le_trans (unhide HZ5) hb.size)
  have K15 := hide (bc (unhide K11) hb)
  have K16 := hide ((unhide K12).trans (hb.mono (unhide K12).size))
  have K17 := hide ((unhide K13).bel hb)
  have K18 := hide ((unhide K14).bel hb)
  have K19 := hide (hk3)
  clear hb hk3 hg3
  go_wp2_with fail
  refine (unhide HE _ _ _ (unhide K17) (unhide K19)).mono ?_
  rintro e W7 ⟨rfl, hb⟩
  have HZ7 := hide (Nat.le_trans (unhide HZ6) hb.size)
  have K20 := hide (bc (unhide K15) hb)
  have K21 := hide ((unhide K16).trans (hb.mono (unhide K16).size))
  have K22 := hide ((unhide K17).bel hb)
  have K23 := hide ((unhide K18).bel hb)
  clear hb
  go_wp2_with fail
  refine (ft_mark (some ⟨g2, 0, none⟩) g2 n n 1 (flatG ftc fs) _ (unhide HFL) hb (by omega) (by omega) rfl (unhide K22)).mono ?_
  rintro e W8 ⟨rfl, hmw⟩
  have HZ8 := hide (Nat.le_trans (unhide HZ7) hmw.size)
  have t2 : decide (((1 : Nat) : Int) + 15 * (n : Int) < 0) = false := decide_eq_false (by omega)
  have t2b : decide ((1 : Int) + 15 * (n : Int) < 0) = false := decide_eq_false (by omega)
  have zg := unhide HG2
  have z0 := unhide HG0
  have K24 := hide ((unhide K20).trans (hmw.below (Nat.le_trans z0 zg.1) (unhide K20).size))
  have K25 := hide ((unhide K21).trans (hmw.below zg.1 (unhide K21).size))
  have K26 := hide ((unhide K23).mw hmw zg.2)
  clear hmw zg z0
  obtain ⟨q2, hq2, _⟩ := (unhide K26).slG
  have HQ2 := hide hq2
  clear hq2
  go_wp2_with fail
  refine (unhide HSB a2 a1 _ _ k2 k1 _ (unhide HQ2) (unhide HMB _ (unhide K25))).mono ?_
  rintro e W9 ⟨rfl, hb⟩
  have HZ9 := hide (Nat.le_trans (unhide HZ8) hb.size)
  have K27 := hide (bc (unhide K24) hb)
  have K28 := hide ((unhide K25).trans (hb.mono (unhide K25).size))
  have K29 := hide ((unhide K26).bel hb)
  clear hb HQ2
  go_wp2_with fail
  refine (by_mark a2 N k2 W3.heap.size L 1 _ (unhide K29) (unhide HZ9) (by omega) (by omega) (by omega)).mono ?_
  rintro e WA ⟨rfl, hrA, hbA⟩
  have z32 := Nat.le_trans (unhide HG2).1 (Nat.le_of_lt (unhide HG2).2)
  have z30 := Nat.le_trans (unhide HG0) z32
  have K30 := hide ((unhide K27).trans (hbA.mono z30))
  have K31 := hide ((unhide K28).trans (hbA.mono z32))
  have K32 := hide (hrA)
  clear hbA hrA z32 z30
  have mk1 : decide ((1 : Int) + (N : Int) < 0) = false := decide_eq_false (by omega)
  have mk2 : ¬ ((1 : Int) + (N : Int) < 0) := by omega
  have mk3 : ((1 : Int) + (N : Int) != 1 + (N : Int)) = false := by simp
  go_wp2_with fail
  refine (by_held a2 N k2 W3.heap.size 1 _ (unhide K32) (by omega) (by omega) (by omega)).mono ?_
  rintro e WB ⟨rfl, hb⟩
  have K33 := hide (bc (unhide K30) hb)
  have K34 := hide ((unhide K31).trans (hb.mono (unhide K31).size))
  have K35 := hide ((unhide K32).bel hb)
  clear hb
  go_wp2_with fail
  refine (unhide HT _ (unhide K33)).mono ?_
  rintro e WC ⟨⟨g5, rfl, hg5, hk5⟩, hb⟩
  have K36 := hide (bc (unhide K33) hb)
  have K37 := hide ((unhide K34).trans (hb.mono (unhide K34).size))
  have K38 := hide ((unhide K35).bel hb)
  have K39 := hide (hk5)
  clear hb hk5 hg5
  go_wp2_with fail
  refine (unhide HPX2 _ _ (unhide K39)).mono ?_
  rintro e WD ⟨⟨a5, k5, rfl, hr5⟩, hb⟩
  have K40 := hide (bc (unhide K36) hb)
  have K41 := hide ((unhide K37).trans (hb.mono (unhide K37).size))
  have K42 := hide ((unhide K38).bel hb)
  obtain ⟨q5, hq5, _⟩ := hr5.slG
  have HQ5 := hide hq5
  clear hb hr5 hq5
  go_wp2_with fail
  refine (unhide HSB a5 a1 _ _ k5 k1 _ (unhide HQ5) (unhide HMB _ (unhide K41))).mono ?_
  rintro e WE ⟨rfl, hb⟩
  have K43 := hide (bc (unhide K40) hb)
  have K44 := hide ((unhide K41).trans (hb.mono (unhide K41).size))
  have K45 := hide ((unhide K42).bel hb)
  clear hb HQ5
  go_wp2_with fail
  refine (by_held a2 N k2 W3.heap.size 1 _ (unhide K45) (by omega) (by omega) (by omega)).mono ?_
  rintro e WF ⟨rfl, hb⟩
  have K46 := hide (bc (unhide K43) hb)
  have K47 := hide ((unhide K44).trans (hb.mono (unhide K44).size))
  have K48 := hide ((unhide K45).bel hb)
  clear hb
  go_wp2_with fail
  go_ret
  exact ⟨rfl, (unhide K46)⟩
theorem fnExactFileBytes_own : ownKnob Try.prog.godebug = none := by kernel_rfl
theorem fnExactFileBytes_laidOut : laidOutB Try.prog = true := by kernel_rfl

set_option maxRecDepth 100000 in
theorem fnExactFileBytes_lifted (os : Os) (started : os.Started) (H : Type) (enc : TypeId × Value → H) :
    ReturnsInHanded {} Try.checked os 4 .any (Rows.fnExactFileBytesSpec.pre6 enc Try.prog Try.f4 Rows.fnExactFileBytesRow.domain false) (Rows.fnExactFileBytesSpec.post enc Try.prog Try.f4 false true false false) := by
  refine returnsInHanded_of_change (C := Try.checked) fnExactFileBytes_own started (by kernel_rfl) Try.func4
    (ChangeSpec.witness6 (enc := enc) (C := Try.checked) false ⟨#[], #[.slice none 0 0], []⟩ 8 (by kernel_rfl) (by kernel_rfl) (by kernel_rfl) (by kernel_rfl)) ?_
  intro W base args ds gs before hval0 hW hcnd _
  have hval : ∀ (j : Nat) t v, Try.f4.params[j]? = some t → args[j]? = some v → Value.okWide Try.prog W .any base t v := hval0
  have hW' := hW
  obtain ⟨p, q, hA0, hV, rfl, hfz, hnd⟩ := hW
  have hA : DataW.TrodAll enc Try.prog W 0 (fun _ => true) true Try.f4.params.toList args.toList ds p := hA0
  rw [Try.params4] at hA hval
  obtain ⟨v0, vs0, d0, ds0, p0, q0, hargs, rfl, rfl, h0, r0⟩ := trodAll_cons hA
  obtain ⟨rfl, rfl, rfl⟩ := trodAll_nil r0
  obtain rfl : args = #[v0] := by cases args; simp_all
  obtain ⟨rfl, rfl⟩ := trodVars_none hV
  obtain ⟨a0, len0, cap0, rfl⟩ := okWide_slice Try.underlying27 (hval 0 27 v0 rfl rfl)
  have k0 := h0
  have lt0 : ∀ x ∈ p0, x.block < W.heap.size := by obtain ⟨m, hm⟩ := k0; exact DataW.trod_lt m _ _ _ hm
  obtain ⟨pp0, po0, ms0, b0, l0, w0⟩ : ∃ (pp po : Nat) (J : List Ft), len0 ≤ 9223372036854775807 ∧ J.length = len0 ∧ (∀ f ∈ J, f.nm.size ≤ maxLen ∧ f.on.size ≤ maxLen ∧ f.ov.size ≤ maxLen) ∧ SlG ftc 15 W a0 pp po J := by
    obtain ⟨fuel, hf⟩ := h0
    obtain ⟨u, n, cap, pp, po, ms, hcs, hn, hl, hx⟩ := open_fts hf
    simp [Value.cells] at hcs
    obtain ⟨rfl, rfl, rfl⟩ := hcs
    exact ⟨pp, po, ms, hn, hl, hx⟩
  clear hA0 hval0
  refine (fnExactFileBytes_walk a0 len0 cap0 pp0 po0 ms0 W b0 l0 w0).mono fun e W' ⟨he, bel⟩ => ?_
  subst he
  exact ⟨_, rfl, _, _, _, [], _, [], hW', trodAll_mk1 (shut_bool Try.underlying4 _), (trodAll_cons_mk (Below.trod fnExactFileBytes_laidOut (by kernel_rfl) (of_decide_eq_true (by kernel_rfl)) k0 bel lt0) trodAll_mk0), rfl, bel.frame _, fun h => by cases h⟩

theorem fnExactFileBytes_over : Rows.fnExactFileBytesRow.holds Try.pinned (OpenSpec.ofChange Rows.fnExactFileBytesSpec) :=
  OpenClaim.holds_of_wide 4 Try.f4 rfl rfl rfl rfl rfl rfl rfl ⟨rfl, rfl, rfl, rfl, rfl⟩ rfl rfl rfl rfl rfl (by kernel_rfl) Try.func4 (by kernel_rfl)
    (of_decide_eq_true (by kernel_rfl)) (by unfold Func.isWrapper; first | (rw [if_pos (by decide +kernel)]; kernel_rfl) | (rw [if_neg (by decide +kernel)]; exact ⟨rfl, rfl⟩))
    (fun os started H enc _ => fnExactFileBytes_lifted os started H enc)

/-- The statement, as it was given. -/
theorem fnExactFileBytes_holds : Rows.FnExactFileBytesSaid := fnExactFileBytes_over
#print axioms fnExactFileBytes_holds
end Go.Proofs.Ytibcgimggcdllaa
