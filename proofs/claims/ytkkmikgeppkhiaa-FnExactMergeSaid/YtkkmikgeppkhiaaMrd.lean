/-
  The model's Merge.
-/
import Derived.Test.YtkkmikgeppkhiaaMrc
namespace Go.Proofs.Ytkkmikgeppkhiaa
open Go.ChangeShapes Go.WideShapes Go.ChangeAt Go.RowKit
set_option linter.unusedVariables false
set_option linter.unusedSimpArgs false

set_option maxRecDepth 100000 in
set_option maxHeartbeats 8000000 in
theorem mergeM_any (u1 : Option Addr) (p1 o1 n1 c1 : Nat) (B : List Ft) (u2 : Option Addr) (p2 o2 n2 c2 : Nat) (O : List Ft) (u3 : Option Addr) (p3 o3 n3 c3 : Nat) (T : List Ft) (w : World) (hl1 : B.length = n1) (hl2 : O.length = n2) (hl3 : T.length = n3)
    (h1 : Lok w ⟨u1, p1, o1, c1, B⟩) (h2 : Lok w ⟨u2, p2, o2, c2, O⟩) (h3 : Lok w ⟨u3, p3, o3, c3, T⟩) :
    Calls Try.prog 15 #[.slice u1 n1 c1, .slice u2 n2 c2, .slice u3 n3 c3] w (MmEnd B O T w) := by
  obtain ⟨iF, hi, hx0, hx1, hx2⟩ := info_parts info57
  obtain ⟨iT, ht, ht0, ht1, ht2⟩ := info_parts info9
  have HL1 := hide hl1
  have HL2 := hide hl2
  have HL3 := hide hl3
  have H1 := hide h1
  have H2 := hide h2
  have H3 := hide h3
  clear hl1 hl2 hl3 h1 h2 h3
  have HX0 := hide (own_made w 57 w.heap.size 15 (Nat.le_refl _) _ rfl)
  have HLS : Hid (LsAt ((w.alloc (.cells #[] 57)).alloc (.cells #[.slice u1 n1 c1, .slice u2 n2 c2, .slice u3 n3 c3] 27)) (w.heap.size + 1) 0 [⟨u1, p1, o1, c1, B⟩, ⟨u2, p2, o2, c2, O⟩, ⟨u3, p3, o3, c3, T⟩]) := hide ⟨by simp, fun i l hi => by
    match i, hi with
    | 0, hi => cases hi; show _ = some (Value.slice u1 B.length c1); rw [unhide HL1]; simp [go_sem]
    | 1, hi => cases hi; show _ = some (Value.slice u2 O.length c2); rw [unhide HL2]; simp [go_sem]
    | 2, hi => cases hi; show _ = some (Value.slice u3 T.length c3); rw [unhide HL3]; simp [go_sem]⟩
  obtain ⟨ls, hls⟩ : ∃ ls : List Ls, ls = [⟨u1, p1, o1, c1, B⟩, ⟨u2, p2, o2, c2, O⟩, ⟨u3, p3, o3, c3, T⟩] := ⟨_, rfl⟩
  have HLI := hide hls
  have HLL : Hid (ls.length = 3) := hide (by rw [hls]; rfl)
  have HOK : Hid (∀ i l, ls[i]? = some l → Lok w l) := hide (by
    intro i l h
    have := List.mem_of_getElem? h
    rw [hls] at this
    simp only [List.mem_cons, List.not_mem_nil, or_false] at this
    rcases this with rfl | rfl | rfl
    · exact unhide H1
    · exact unhide H2
    · exact unhide H3)
  have HFS : Hid (fss ls = [B, O, T]) := hide (by rw [hls]; rfl)
  rw [← hls] at HLS
  clear hls
  have HW0 : Hid (Below w.heap.size w ((w.alloc (.cells #[] 57)).alloc (.cells #[.slice u1 n1 c1, .slice u2 n2 c2, .slice u3 n3 c3] 27))) := hide (ba (ba (Below.refl w.heap.size w) (.cells #[] 57)) _)
  have hs0 : ((w.alloc (.cells #[] 57)).alloc (.cells #[.slice u1 n1 c1, .slice u2 n2 c2, .slice u3 n3 c3] 27)).heap.size = w.heap.size + 2 := by simp
  have HS0 := hide hs0
  have HTOW := hide (fun W (h : Below (w.heap.size + 2) ((w.alloc (.cells #[] 57)).alloc (.cells #[.slice u1 n1 c1, .slice u2 n2 c2, .slice u3 n3 c3] 27)) W) => ((unhide HW0).trans (h.mono (by omega)) : Below w.heap.size w W))
  have HLA := hide (fun W (h : Below (w.heap.size + 2) ((w.alloc (.cells #[] 57)).alloc (.cells #[.slice u1 n1 c1, .slice u2 n2 c2, .slice u3 n3 c3] 27)) W) => ((unhide HLS).bel (by rw [unhide HS0]; exact h) : LsAt W (w.heap.size + 1) 0 ls))
  have HNN := hide (fun W (h : Below (w.heap.size + 2) ((w.alloc (.cells #[] 57)).alloc (.cells #[.slice u1 n1 c1, .slice u2 n2 c2, .slice u3 n3 c3] 27)) W) => (own_bel (own_bel (unhide HX0) (ba (Below.refl _ _) _)) (by rw [unhide HS0]; exact h) : W.ownsRow w.heap.size 57 15 (.slice (some ⟨w.heap.size, 0, none⟩) 0 0) 0 []))
  have HD0 : Hid (Below (w.heap.size + 2) ((w.alloc (.cells #[] 57)).alloc (.cells #[.slice u1 n1 c1, .slice u2 n2 c2, .slice u3 n3 c3] 27)) ((w.alloc (.cells #[] 57)).alloc (.cells #[.slice u1 n1 c1, .slice u2 n2 c2, .slice u3 n3 c3] 27))) := hide (Below.refl _ _)
  have NIL := hide (fun (W : World) (h : Below (w.heap.size + 2) ((w.alloc (.cells #[] 57)).alloc (.cells #[.slice u1 n1 c1, .slice u2 n2 c2, .slice u3 n3 c3] 27)) W) (c : Int) (v3 : Value) (nms : List ByteArray) (ha : MmAns B O T [] c nms) (hs : SRow W w.heap.size v3 nms) => (⟨⟨_, c, [], v3, nms, rfl, ha, unhide HNN W h, hs⟩, unhide HTOW W h⟩ : MmEnd B O T w (.returned (.tuple #[(.slice (some ⟨w.heap.size, 0, none⟩) 0 0), .int .i64 c, v3])) W))
  have HSZ := hide (fun (W : World) (h : Below (w.heap.size + 2) ((w.alloc (.cells #[] 57)).alloc (.cells #[.slice u1 n1 c1, .slice u2 n2 c2, .slice u3 n3 c3] 27)) W) => (by have h2 := h.size; rw [unhide HS0] at h2; exact h2 : w.heap.size + 2 ≤ W.heap.size))
  clear hs0 HX0 HLS
  go_enter Try.func15, Try.ntmps15
  go_wp2_with fail
  go_loopw [11] (fun s W => ∃ (i : Nat), s = .int .i64 (i : Int) ∧ i ≤ 3 ∧ (∀ j m, j < i → ls[j]? = some m → m.fs.length ≤ 4096) ∧ Below (w.heap.size + 2) ((w.alloc (.cells #[] 57)).alloc (.cells #[.slice u1 n1 c1, .slice u2 n2 c2, .slice u3 n3 c3] 27)) W) (fun s _ => 3 - (intOf s).toNat)
  case atStart => exact ⟨0, rfl, by omega, fun j m hj => by omega, unhide HD0⟩
  case round =>
    obtain ⟨i, rfl, hi3, hb, hd⟩ := hrel
    have HBD := hide hb
    have HD := hide hd
    clear hb hd
    by_cases h : i < 3
    · have iz : decide ((i : Int) < 3) = true := decide_eq_true (by omega)
      have i1 : (i : Int) < (3 : Int) := by omega
      have i0 : (0 : Int) ≤ (i : Int) := by omega
      obtain ⟨l, hx⟩ := get_some (unhide HLL) h
      have HX := hide hx
      have k0 := (unhide HLA _ (unhide HD)).2 i l hx
      simp only [Ls.v, Nat.zero_add] at k0
      obtain ⟨q, hq⟩ : ∃ q, l.fs.length = q := ⟨_, rfl⟩
      have HQ := hide hq
      rw [hq] at k0
      clear hx hq
      by_cases hlong : 4096 < q
      · have d1 : decide ((4096 : Int) < (q : Int)) = true := decide_eq_true (by omega)
        have d2 : decide ((q : Int) > 4096) = true := decide_eq_true (by omega)
        have HVC : Hid (Vc [B, O, T] 2) := hide (by rw [← unhide HFS]; exact .inl ⟨⟨l.fs, List.mem_map.2 ⟨l, List.mem_of_getElem? (unhide HX), rfl⟩, by rw [unhide HQ]; exact hlong⟩, rfl⟩)
        go_wp2_with fail
        refine bodyPost_ret (v := .tuple #[(.slice (some ⟨w.heap.size, 0, none⟩) 0 0), .int .i64 2, .slice (some ⟨wr.heap.size, 0, none⟩) 0 0]) (by simp [results, Try.results15, go_sem]; done) rfl ?_
        exact unhide NIL _ (Below.alloc (unhide HD) (unhide HSZ _ (unhide HD)) _) 2 _ [] ⟨2, unhide HVC, .inl ⟨by decide, rfl, rfl, rfl⟩⟩ (own_made wr 9 w.heap.size 1 (by have := unhide HSZ _ (unhide HD); omega) _ rfl)
      · have d1 : decide ((4096 : Int) < (q : Int)) = false := decide_eq_false (by omega)
        have d2 : decide ((q : Int) > 4096) = false := decide_eq_false (by omega)
        go_wp2_with fail
        go_roundw
        case rel =>
          refine ⟨i + 1, by simp, h, ?_, unhide HD⟩
          intro j m hj hm
          by_cases e : j = i
          · subst e
            rw [unhide HX] at hm
            cases hm
            rw [unhide HQ]; omega
          · exact unhide HBD j m (by omega) hm
        case measure => simp only [intOf]; omega
    · have iz : decide ((i : Int) < 3) = false := decide_eq_false (by omega)
      have i1 : ¬ (i : Int) < (3 : Int) := by omega
      have HLE := hide (fun l (hl : l ∈ fss ls) => (by
        obtain ⟨m, hm, rfl⟩ := List.mem_map.1 hl
        obtain ⟨j, hj, rfl⟩ := List.getElem_of_mem hm
        exact unhide HBD j _ (by have := unhide HLL; omega) (List.getElem?_eq_getElem hj) : l.length ≤ 4096))
      have HDA := hide (unhide HD)
      clear HBD
      go_wp2_with fail
      go_loopw [12] (fun s W => ∃ (i : Nat), s = .int .i64 (i : Int) ∧ i ≤ 3 ∧ (∀ j m, j < i → ls[j]? = some m → ∃ ab, Chk m.fs 0 ab) ∧ Below (w.heap.size + 2) ((w.alloc (.cells #[] 57)).alloc (.cells #[.slice u1 n1 c1, .slice u2 n2 c2, .slice u3 n3 c3] 27)) W) (fun s _ => 3 - (intOf s).toNat)
      case atStart => exact ⟨0, rfl, by omega, fun j m hj => by omega, unhide HDA⟩
      case round =>
        obtain ⟨i, rfl, hi3, hb, hd⟩ := hrel
        have HCK := hide hb
        have HD := hide hd
        clear hb hd
        by_cases h : i < 3
        · have iz : decide ((i : Int) < 3) = true := decide_eq_true (by omega)
          have i1 : (i : Int) < (3 : Int) := by omega
          have i0 : (0 : Int) ≤ (i : Int) := by omega
          obtain ⟨l, hx⟩ := get_some (unhide HLL) h
          have HX := hide hx
          have k0 := (unhide HLA _ (unhide HD)).2 i l hx
          have hk := (unhide HOK i l hx).bel (unhide HTOW _ (unhide HD))
          simp only [Ls.v, Nat.zero_add] at k0
          obtain ⟨q, hq⟩ : ∃ q, l.fs.length = q := ⟨_, rfl⟩
          have HFO := hide (codeM_any l.u l.p l.po q l.cu l.fs wr hq (by rw [← hq]; exact hk.le) (by rw [← hq]; exact hk.cap) hk.size hk.at_)
          rw [hq] at k0
          clear hx hq hk
          go_wp2_with fail
          refine (unhide HFO).mono ?_
          rintro e W1 ⟨⟨c, ab, rfl, hck⟩, hb1⟩
          have HC := hide hck
          have HD1 := hide ((unhide HD).trans (hb1.mono (unhide HSZ _ (unhide HD))))
          clear hck hb1
          by_cases hc : c = 0
          · subst hc
            go_wp2_with fail
            go_roundw
            case rel =>
              refine ⟨i + 1, by simp, h, ?_, unhide HD1⟩
              intro j m hj hm
              by_cases e : j = i
              · subst e
                rw [unhide HX] at hm
                cases hm
                exact ⟨ab, unhide HC⟩
              · exact unhide HCK j m (by omega) hm
            case measure => simp only [intOf]; omega
          · have c0 : (c != 0) = true := by simpa using hc
            have HC0 := hide hc
            clear hc
            have HVC : Hid (Vc [B, O, T] c) := hide (by rw [← unhide HFS]; exact .inr ⟨unhide HLE, vg_at (unhide HX) (unhide HCK) (unhide HC) (unhide HC0)⟩)
            go_wp2_with fail
            refine bodyPost_ret (v := .tuple #[(.slice (some ⟨w.heap.size, 0, none⟩) 0 0), .int .i64 c, .slice (some ⟨W1.heap.size, 0, none⟩) 0 0]) (by simp [results, Try.results15, go_sem]; done) rfl ?_
            exact unhide NIL _ (Below.alloc (unhide HD1) (unhide HSZ _ (unhide HD1)) _) c _ [] ⟨c, unhide HVC, .inl ⟨unhide HC0, rfl, rfl, rfl⟩⟩ (own_made W1 9 w.heap.size 1 (by have := unhide HSZ _ (unhide HD1); omega) _ rfl)
        · have iz : decide ((i : Int) < 3) = false := decide_eq_false (by omega)
          have i1 : ¬ (i : Int) < (3 : Int) := by omega
          have HVC : Hid (Vc [B, O, T] 0) := hide (by rw [← unhide HFS]; exact .inr ⟨unhide HLE, vg_all fun j m hm => unhide HCK j m (by have := (List.getElem?_eq_some_iff.1 hm).1; have := unhide HLL; omega) hm⟩)
          have hF := (unhide HVC).zero
          have HF1 := hide (hF B (by simp))
          have HF2 := hide (hF O (by simp))
          have HF3 := hide (hF T (by simp))
          have hn1 : n1 ≤ 30 := by rw [← unhide HL1]; exact (unhide HF1).len
          have hn2 : n2 ≤ 30 := by rw [← unhide HL2]; exact (unhide HF2).len
          have hn3 : n3 ≤ 30 := by rw [← unhide HL3]; exact (unhide HF3).len
          have HVD := hide (unhide HD)
          have HSV := unhide HSZ _ (unhide HD)
          have HNM := hide (namesOfM_any (w.heap.size + 1) 0 3 3 ls wr (unhide HLL) (by omega) (by
            intro l hl
            obtain ⟨j, hj, rfl⟩ := List.getElem_of_mem hl
            exact (hF _ (by rw [← unhide HFS]; exact List.mem_map.2 ⟨_, List.getElem_mem hj, rfl⟩)).len) (by
            intro l hl
            obtain ⟨j, hj, rfl⟩ := List.getElem_of_mem hl
            have := (unhide HOK j _ (List.getElem?_eq_getElem hj)).bel (unhide HTOW _ (unhide HD))
            exact ⟨this.le, this.at_⟩) (unhide HLA _ (unhide HD)))
          have hnm3 : nmsOf ls = B.map Ft.nm ++ O.map Ft.nm ++ T.map Ft.nm := by rw [unhide HLI, nms3]
          rw [hnm3] at HNM
          clear hF hnm3 HCK HLE HDA
          go_wp2_with fail
          refine (unhide HNM).mono ?_
          rintro e W3 ⟨v, rfl, hs, hb⟩
          have HN0 := hide (srt_nms (B.map Ft.nm ++ O.map Ft.nm ++ T.map Ft.nm))
          have HD3 := hide ((unhide HVD).trans (hb.mono (unhide HSZ _ (unhide HVD))))
          have HZ3 := unhide HSZ _ (unhide HD3)
          have hst : ∃ q, (srt (B.map Ft.nm ++ O.map Ft.nm ++ T.map Ft.nm)).length = q ∧ q ≤ 90 := ⟨_, rfl, by
            have := foldl_ins_len (B.map Ft.nm ++ O.map Ft.nm ++ T.map Ft.nm) []
            unfold srt
            simp only [List.length_nil, List.length_append, List.length_map, unhide HL1, unhide HL2, unhide HL3] at this
            omega⟩
          obtain ⟨q, hq, hq1⟩ := hst
          obtain ⟨uS, cS, rfl, _⟩ := own_form hs
          have hSt := (SRow.stAt hs).2
          rw [hq]
          have HQ := hide hq
          have HST := hide hSt
          clear hs hb hq hSt HNM
          generalize srt (B.map Ft.nm ++ O.map Ft.nm ++ T.map Ft.nm) = ns at *
          go_wp2_with fail
          go_loopw [15, 16] (fun v s W => ∃ (i m : Nat), s = .int .i64 (i : Int) ∧ i ≤ q ∧ m ≤ i ∧ ((ns.take i).filter (clM B O T)).length = m ∧ W.ownsRow W3.heap.size 9 1 v m (strs ((ns.take i).filter (clM B O T))) ∧ Below W3.heap.size W3 W) (fun _ s _ => q - (intOf s).toNat)
          case atStart => exact ⟨0, 0, rfl, by omega, by omega, rfl, own_made W3 9 W3.heap.size 1 (Nat.le_refl _) _ rfl, ba (Below.refl _ _) _⟩
          case round =>
            obtain ⟨i, m, rfl, hi1, hmi, hlen, hrow, hw3⟩ := hrel
            have HR := hide hrow
            have HW3 := hide hw3
            have HD := hide ((unhide HD3).trans (hw3.mono HZ3))
            have HLN := hide hlen
            obtain ⟨ug, cg, rfl, _⟩ := own_form hrow
            clear hrow hlen hw3
            by_cases h : i < q
            · have i1 : (i : Int) < (q : Int) := by omega
              have i0 : (0 : Int) ≤ (i : Int) := Int.natCast_nonneg _
              have iz : decide ((i : Int) < (q : Int)) = true := decide_eq_true i1
              obtain ⟨s, hx⟩ := get_some (unhide HQ) h
              have hne : ns ≠ [] := by intro e; subst e; cases hx
              obtain ⟨g, o, rfl, hgl, hc⟩ := (unhide HST) hne
              have hc0 := hc i s hx
              have HC := hide (fun W (h : Below W3.heap.size W3 W) => (keep1 h hc0 : W.cell? ⟨g, o + i, none⟩ = some (.string s)))
              have HGL := hide hgl
              have k0 := unhide HC _ (unhide HW3)
              have HTK := hide (filt_take (clM B O T) hx)
              have HG1 := hide (fun W (h : Below w.heap.size w W) => getM_any u2 p2 o2 n2 c2 O s W (unhide HL2) (by omega) ((unhide H2).at_.bel h))
              have HG2 := hide (fun W (h : Below w.heap.size w W) => getM_any u3 p3 o3 n3 c3 T s W (unhide HL3) (by omega) ((unhide H3).at_.bel h))
              have HED1 := hide (fun W (h : Below w.heap.size w W) => editM_any u1 p1 o1 n1 c1 B u2 p2 o2 n2 c2 O s W (unhide HL1) (by omega) ((unhide H1).at_.bel h) (unhide HL2) (by omega) ((unhide H2).at_.bel h))
              have HED2 := hide (fun W (h : Below w.heap.size w W) => editM_any u1 p1 o1 n1 c1 B u3 p3 o3 n3 c3 T s W (unhide HL1) (by omega) ((unhide H1).at_.bel h) (unhide HL3) (by omega) ((unhide H3).at_.bel h))
              have hcm : clM B O T s = ((decide (0 < knd B O s) && decide (0 < knd B T s)) && (((gtF O s).isSome != (gtF T s).isSome) || !fE ((gtF O s).getD ft0) ((gtF T s).getD ft0))) := rfl
              generalize knd B O s = k1 at *
              generalize knd B T s = k2 at *
              obtain ⟨F, hF⟩ := fl_ex ((gtF O s).getD ft0)
              obtain ⟨G, hG⟩ := fl_ex ((gtF T s).getD ft0)
              rw [hF.v] at HG1
              rw [hG.v] at HG2
              have hne := hF.ne hG
              have HFI := hide hF.info
              have HFO := hide hF.one
              have HGI := hide hG.info
              have HGO := hide hG.one
              have hsF := hF.size
              have hsG := hG.size
              have HLF := hide (fun g W (h : ab W g 57 F) => hF.load0 h)
              have HLG := hide (fun g W (h : ab W g 57 G) => hG.load0 h)
              generalize fE ((gtF O s).getD ft0) ((gtF T s).getD ft0) = fe at *
              clear hF hG hx hc hc0 hgl
              go_wp2_with fail
              refine (unhide HG1 _ (unhide HTOW _ (unhide HD))).mono ?_
              rintro e W4 ⟨rfl, hb4⟩
              have HW4 := hide (bc (unhide HW3) hb4)
              have HR4 := hide (own_bel (unhide HR) hb4)
              have k4 := unhide HC _ (bc (unhide HW3) hb4)
              have kl4 := cell_lt k4
              have HN5 := hide (ab_new W4 57 F _ rfl)
              have HW5 := hide (ba (unhide HW4) (.cells F 57))
              have HR5 := hide (own_bel (unhide HR4) (ba (Below.refl _ _) (.cells F 57)))
              have HD5 := hide ((unhide HD3).trans ((unhide HW5).mono HZ3))
              clear hb4 k0
              go_wp2_with (refine wpl_putNew rfl 57 _ _ rfl W4 _ F 57 rfl rfl (unhide HFI) (by rw [hsF]; rfl) (unhide HFO) ?_)
              refine (unhide HG2 _ (unhide HTOW _ (unhide HD5))).mono ?_
              rintro e W6 ⟨rfl, hb6⟩
              have HW6 := hide (bc (unhide HW5) hb6)
              have HR6 := hide (own_bel (unhide HR5) hb6)
              have HN6 := hide ((unhide HN5).bel hb6)
              have k6 := unhide HC _ (bc (unhide HW5) hb6)
              have kl6 := cell_lt k6
              have HN7 := hide ((unhide HN6).bel (ba (Below.refl _ _) (.cells G 57)))
              have HM7 := hide (ab_new W6 57 G _ rfl)
              have HW7 := hide (ba (unhide HW6) (.cells G 57))
              have HR7 := hide (own_bel (unhide HR6) (ba (Below.refl _ _) (.cells G 57)))
              have HD7 := hide ((unhide HD3).trans ((unhide HW7).mono HZ3))
              clear hb6 k4 kl4
              go_wp2_with (refine wpl_putNew rfl 57 _ _ rfl W6 _ G 57 rfl rfl (unhide HGI) (by rw [hsG]; rfl) (unhide HGO) ?_)
              refine (unhide HED1 _ (unhide HTOW _ (unhide HD7))).mono ?_
              rintro e W8 ⟨rfl, hb8⟩
              have HW8 := hide (bc (unhide HW7) hb8)
              have HR8 := hide (own_bel (unhide HR7) hb8)
              have HN8 := hide ((unhide HN7).bel hb8)
              have HM8 := hide ((unhide HM7).bel hb8)
              have k8 := unhide HC _ (bc (unhide HW7) hb8)
              have kl8 := cell_lt k8
              have HD8 := hide ((unhide HD3).trans ((unhide HW8).mono HZ3))
              clear hb8 k6 kl6
              by_cases e1 : 0 < k1
              rotate_left
              · have d1 : decide (0 < k1) = false := decide_eq_false e1
                have d2 : decide (k1 > 0) = false := decide_eq_false e1
                rw [d1, Bool.false_and, Bool.false_and] at hcm
                have HTK2 : Hid ((ns.take (i + 1)).filter (clM B O T) = (ns.take i).filter (clM B O T)) := hide (by rw [unhide HTK, hcm]; simp)
                go_wp2_with (first
                  | (refine wpl_loadAtG 57 (.tmp 17) rfl ?_ _ rfl _ (unhide HLF _ _ (unhide HN8)) ?_; · (first | rfl | (simp [Region.wanted, yielded]; done)); try go_frame)
                  | (refine wpl_loadAtG 57 (.tmp 19) rfl ?_ _ rfl _ (unhide HLG _ _ (unhide HM8)) ?_; · (first | rfl | (simp [Region.wanted, yielded]; done)); try go_frame))
                go_roundw
                case rel => exact ⟨i + 1, m, by simp, h, by omega, by rw [unhide HTK2, unhide HLN], by rw [unhide HTK2]; exact unhide HR8, unhide HW8⟩
                case measure => simp only [intOf]; omega
              have d1 : decide (0 < k1) = true := decide_eq_true e1
              have d2 : decide (k1 > 0) = true := decide_eq_true e1
              rw [d1, Bool.true_and] at hcm
              go_wp2_with fail
              refine (unhide HED2 _ (unhide HTOW _ (unhide HD8))).mono ?_
              rintro e W9 ⟨rfl, hb9⟩
              have HW9 := hide (bc (unhide HW8) hb9)
              have HR9 := hide (own_bel (unhide HR8) hb9)
              have HN9 := hide ((unhide HN8).bel hb9)
              have HM9 := hide ((unhide HM8).bel hb9)
              have k9 := unhide HC _ (bc (unhide HW8) hb9)
              have kl9 := cell_lt k9
              clear hb9 k8 kl8 d1 d2
              by_cases e2 : 0 < k2
              rotate_left
              · have d1 : decide (0 < k2) = false := decide_eq_false e2
                have d2 : decide (k2 > 0) = false := decide_eq_false e2
                rw [d1, Bool.false_and] at hcm
                have HTK2 : Hid ((ns.take (i + 1)).filter (clM B O T) = (ns.take i).filter (clM B O T)) := hide (by rw [unhide HTK, hcm]; simp)
                go_wp2_with (first
                  | (refine wpl_loadAtG 57 (.tmp 17) rfl ?_ _ rfl _ (unhide HLF _ _ (unhide HN9)) ?_; · (first | rfl | (simp [Region.wanted, yielded]; done)); try go_frame)
                  | (refine wpl_loadAtG 57 (.tmp 19) rfl ?_ _ rfl _ (unhide HLG _ _ (unhide HM9)) ?_; · (first | rfl | (simp [Region.wanted, yielded]; done)); try go_frame))
                go_roundw
                case rel => exact ⟨i + 1, m, by simp, h, by omega, by rw [unhide HTK2, unhide HLN], by rw [unhide HTK2]; exact unhide HR9, unhide HW9⟩
                case measure => simp only [intOf]; omega
              have d1 : decide (0 < k2) = true := decide_eq_true e2
              have d2 : decide (k2 > 0) = true := decide_eq_true e2
              rw [d1, Bool.true_and] at hcm
              generalize (gtF O s).isSome = x1 at *
              generalize (gtF T s).isSome = x2 at *
              cases x1 <;> cases x2 <;> cases fe
              · have HTK2 : Hid ((ns.take (i + 1)).filter (clM B O T) = (ns.take i).filter (clM B O T) ++ [s]) := hide (by rw [unhide HTK, hcm]; simp)
                go_wp2_with (first
                  | (refine wpl_loadAtG 57 (.tmp 17) rfl ?_ _ rfl _ (unhide HLF _ _ (unhide HN9)) ?_; · (first | rfl | (simp [Region.wanted, yielded]; done)); try go_frame)
                  | (refine wpl_loadAtG 57 (.tmp 19) rfl ?_ _ rfl _ (unhide HLG _ _ (unhide HM9)) ?_; · (first | rfl | (simp [Region.wanted, yielded]; done)); try go_frame)
                  | (at_builtin; refine unhide ?_))
                refine hide ?_
                refine wpList_append_own _ rfl _ _ 34 rfl W3.heap.size 9 iT _ 1 16 Try.underlying34 ht ht0 ht1 ht2 rfl (by decide) _ m _ rfl (own_bel (unhide HR9) (ba (Below.refl _ _) _)) _ 1 1 (strs [s]) rfl rfl (by first | exact news_cells _ _ rfl | exact news_cells _ _ (by simp)) strs_one (by unfold maxLen; omega) (by omega) (Nat.le_trans (unhide HW9).size (by simp)) ?_
                intro v' w1 hown' hgrow _
                have R := hide (own_str (Below.alloc (Below.refl W3.heap.size _) (unhide HW9).size _) (Nat.le_trans (unhide HW9).size (by simp)) (unhide HR9) hown' hgrow)
                clear hown' hgrow
                go_wp2_with fail
                go_roundw
                case rel => exact ⟨i + 1, m + 1, by simp, h, by omega, by rw [unhide HTK2, List.length_append, unhide HLN]; rfl, by rw [unhide HTK2]; exact (unhide R).1, (unhide HW9).trans (unhide R).2⟩
                case measure => simp only [intOf]; omega
              · have HTK2 : Hid ((ns.take (i + 1)).filter (clM B O T) = (ns.take i).filter (clM B O T)) := hide (by rw [unhide HTK, hcm]; simp)
                go_wp2_with (first
                  | (refine wpl_loadAtG 57 (.tmp 17) rfl ?_ _ rfl _ (unhide HLF _ _ (unhide HN9)) ?_; · (first | rfl | (simp [Region.wanted, yielded]; done)); try go_frame)
                  | (refine wpl_loadAtG 57 (.tmp 19) rfl ?_ _ rfl _ (unhide HLG _ _ (unhide HM9)) ?_; · (first | rfl | (simp [Region.wanted, yielded]; done)); try go_frame))
                go_roundw
                case rel => exact ⟨i + 1, m, by simp, h, by omega, by rw [unhide HTK2, unhide HLN], by rw [unhide HTK2]; exact unhide HR9, unhide HW9⟩
                case measure => simp only [intOf]; omega
              · have HTK2 : Hid ((ns.take (i + 1)).filter (clM B O T) = (ns.take i).filter (clM B O T) ++ [s]) := hide (by rw [unhide HTK, hcm]; simp)
                go_wp2_with (first
                  | (refine wpl_loadAtG 57 (.tmp 17) rfl ?_ _ rfl _ (unhide HLF _ _ (unhide HN9)) ?_; · (first | rfl | (simp [Region.wanted, yielded]; done)); try go_frame)
                  | (refine wpl_loadAtG 57 (.tmp 19) rfl ?_ _ rfl _ (unhide HLG _ _ (unhide HM9)) ?_; · (first | rfl | (simp [Region.wanted, yielded]; done)); try go_frame)
                  | (at_builtin; refine unhide ?_))
                refine hide ?_
                refine wpList_append_own _ rfl _ _ 34 rfl W3.heap.size 9 iT _ 1 16 Try.underlying34 ht ht0 ht1 ht2 rfl (by decide) _ m _ rfl (own_bel (unhide HR9) (ba (Below.refl _ _) _)) _ 1 1 (strs [s]) rfl rfl (by first | exact news_cells _ _ rfl | exact news_cells _ _ (by simp)) strs_one (by unfold maxLen; omega) (by omega) (Nat.le_trans (unhide HW9).size (by simp)) ?_
                intro v' w1 hown' hgrow _
                have R := hide (own_str (Below.alloc (Below.refl W3.heap.size _) (unhide HW9).size _) (Nat.le_trans (unhide HW9).size (by simp)) (unhide HR9) hown' hgrow)
                clear hown' hgrow
                go_wp2_with fail
                go_roundw
                case rel => exact ⟨i + 1, m + 1, by simp, h, by omega, by rw [unhide HTK2, List.length_append, unhide HLN]; rfl, by rw [unhide HTK2]; exact (unhide R).1, (unhide HW9).trans (unhide R).2⟩
                case measure => simp only [intOf]; omega
              · have HTK2 : Hid ((ns.take (i + 1)).filter (clM B O T) = (ns.take i).filter (clM B O T) ++ [s]) := hide (by rw [unhide HTK, hcm]; simp)
                go_wp2_with (first
                  | (refine wpl_loadAtG 57 (.tmp 17) rfl ?_ _ rfl _ (unhide HLF _ _ (unhide HN9)) ?_; · (first | rfl | (simp [Region.wanted, yielded]; done)); try go_frame)
                  | (refine wpl_loadAtG 57 (.tmp 19) rfl ?_ _ rfl _ (unhide HLG _ _ (unhide HM9)) ?_; · (first | rfl | (simp [Region.wanted, yielded]; done)); try go_frame)
                  | (at_builtin; refine unhide ?_))
                refine hide ?_
                refine wpList_append_own _ rfl _ _ 34 rfl W3.heap.size 9 iT _ 1 16 Try.underlying34 ht ht0 ht1 ht2 rfl (by decide) _ m _ rfl (own_bel (unhide HR9) (ba (Below.refl _ _) _)) _ 1 1 (strs [s]) rfl rfl (by first | exact news_cells _ _ rfl | exact news_cells _ _ (by simp)) strs_one (by unfold maxLen; omega) (by omega) (Nat.le_trans (unhide HW9).size (by simp)) ?_
                intro v' w1 hown' hgrow _
                have R := hide (own_str (Below.alloc (Below.refl W3.heap.size _) (unhide HW9).size _) (Nat.le_trans (unhide HW9).size (by simp)) (unhide HR9) hown' hgrow)
                clear hown' hgrow
                go_wp2_with fail
                go_roundw
                case rel => exact ⟨i + 1, m + 1, by simp, h, by omega, by rw [unhide HTK2, List.length_append, unhide HLN]; rfl, by rw [unhide HTK2]; exact (unhide R).1, (unhide HW9).trans (unhide R).2⟩
                case measure => simp only [intOf]; omega
              · have HTK2 : Hid ((ns.take (i + 1)).filter (clM B O T) = (ns.take i).filter (clM B O T) ++ [s]) := hide (by rw [unhide HTK, hcm]; simp)
                go_wp2_with (first
                  | (refine wpl_loadAtG 57 (.tmp 17) rfl ?_ _ rfl _ (unhide HLF _ _ (unhide HN9)) ?_; · (first | rfl | (simp [Region.wanted, yielded]; done)); try go_frame)
                  | (refine wpl_loadAtG 57 (.tmp 19) rfl ?_ _ rfl _ (unhide HLG _ _ (unhide HM9)) ?_; · (first | rfl | (simp [Region.wanted, yielded]; done)); try go_frame)
                  | (at_builtin; refine unhide ?_))
                refine hide ?_
                refine wpList_append_own _ rfl _ _ 34 rfl W3.heap.size 9 iT _ 1 16 Try.underlying34 ht ht0 ht1 ht2 rfl (by decide) _ m _ rfl (own_bel (unhide HR9) (ba (Below.refl _ _) _)) _ 1 1 (strs [s]) rfl rfl (by first | exact news_cells _ _ rfl | exact news_cells _ _ (by simp)) strs_one (by unfold maxLen; omega) (by omega) (Nat.le_trans (unhide HW9).size (by simp)) ?_
                intro v' w1 hown' hgrow _
                have R := hide (own_str (Below.alloc (Below.refl W3.heap.size _) (unhide HW9).size _) (Nat.le_trans (unhide HW9).size (by simp)) (unhide HR9) hown' hgrow)
                clear hown' hgrow
                go_wp2_with fail
                go_roundw
                case rel => exact ⟨i + 1, m + 1, by simp, h, by omega, by rw [unhide HTK2, List.length_append, unhide HLN]; rfl, by rw [unhide HTK2]; exact (unhide R).1, (unhide HW9).trans (unhide R).2⟩
                case measure => simp only [intOf]; omega
              · have HTK2 : Hid ((ns.take (i + 1)).filter (clM B O T) = (ns.take i).filter (clM B O T) ++ [s]) := hide (by rw [unhide HTK, hcm]; simp)
                go_wp2_with (first
                  | (refine wpl_loadAtG 57 (.tmp 17) rfl ?_ _ rfl _ (unhide HLF _ _ (unhide HN9)) ?_; · (first | rfl | (simp [Region.wanted, yielded]; done)); try go_frame)
                  | (refine wpl_loadAtG 57 (.tmp 19) rfl ?_ _ rfl _ (unhide HLG _ _ (unhide HM9)) ?_; · (first | rfl | (simp [Region.wanted, yielded]; done)); try go_frame)
                  | (at_builtin; refine unhide ?_))
                refine hide ?_
                refine wpList_append_own _ rfl _ _ 34 rfl W3.heap.size 9 iT _ 1 16 Try.underlying34 ht ht0 ht1 ht2 rfl (by decide) _ m _ rfl (own_bel (unhide HR9) (ba (Below.refl _ _) _)) _ 1 1 (strs [s]) rfl rfl (by first | exact news_cells _ _ rfl | exact news_cells _ _ (by simp)) strs_one (by unfold maxLen; omega) (by omega) (Nat.le_trans (unhide HW9).size (by simp)) ?_
                intro v' w1 hown' hgrow _
                have R := hide (own_str (Below.alloc (Below.refl W3.heap.size _) (unhide HW9).size _) (Nat.le_trans (unhide HW9).size (by simp)) (unhide HR9) hown' hgrow)
                clear hown' hgrow
                go_wp2_with fail
                go_roundw
                case rel => exact ⟨i + 1, m + 1, by simp, h, by omega, by rw [unhide HTK2, List.length_append, unhide HLN]; rfl, by rw [unhide HTK2]; exact (unhide R).1, (unhide HW9).trans (unhide R).2⟩
                case measure => simp only [intOf]; omega
              · have HTK2 : Hid ((ns.take (i + 1)).filter (clM B O T) = (ns.take i).filter (clM B O T) ++ [s]) := hide (by rw [unhide HTK, hcm]; simp)
                go_wp2_with (first
                  | (refine wpl_loadAtG 57 (.tmp 17) rfl ?_ _ rfl _ (unhide HLF _ _ (unhide HN9)) ?_; · (first | rfl | (simp [Region.wanted, yielded]; done)); try go_frame)
                  | (refine wpl_loadAtG 57 (.tmp 19) rfl ?_ _ rfl _ (unhide HLG _ _ (unhide HM9)) ?_; · (first | rfl | (simp [Region.wanted, yielded]; done)); try go_frame)
                  | (at_builtin; refine unhide ?_))
                refine hide ?_
                refine wpList_append_own _ rfl _ _ 34 rfl W3.heap.size 9 iT _ 1 16 Try.underlying34 ht ht0 ht1 ht2 rfl (by decide) _ m _ rfl (own_bel (unhide HR9) (ba (Below.refl _ _) _)) _ 1 1 (strs [s]) rfl rfl (by first | exact news_cells _ _ rfl | exact news_cells _ _ (by simp)) strs_one (by unfold maxLen; omega) (by omega) (Nat.le_trans (unhide HW9).size (by simp)) ?_
                intro v' w1 hown' hgrow _
                have R := hide (own_str (Below.alloc (Below.refl W3.heap.size _) (unhide HW9).size _) (Nat.le_trans (unhide HW9).size (by simp)) (unhide HR9) hown' hgrow)
                clear hown' hgrow
                go_wp2_with fail
                go_roundw
                case rel => exact ⟨i + 1, m + 1, by simp, h, by omega, by rw [unhide HTK2, List.length_append, unhide HLN]; rfl, by rw [unhide HTK2]; exact (unhide R).1, (unhide HW9).trans (unhide R).2⟩
                case measure => simp only [intOf]; omega
              · have HTK2 : Hid ((ns.take (i + 1)).filter (clM B O T) = (ns.take i).filter (clM B O T)) := hide (by rw [unhide HTK, hcm]; simp)
                go_wp2_with (first
                  | (refine wpl_loadAtG 57 (.tmp 17) rfl ?_ _ rfl _ (unhide HLF _ _ (unhide HN9)) ?_; · (first | rfl | (simp [Region.wanted, yielded]; done)); try go_frame)
                  | (refine wpl_loadAtG 57 (.tmp 19) rfl ?_ _ rfl _ (unhide HLG _ _ (unhide HM9)) ?_; · (first | rfl | (simp [Region.wanted, yielded]; done)); try go_frame))
                go_roundw
                case rel => exact ⟨i + 1, m, by simp, h, by omega, by rw [unhide HTK2, unhide HLN], by rw [unhide HTK2]; exact unhide HR9, unhide HW9⟩
                case measure => simp only [intOf]; omega
            · have i1 : ¬ (i : Int) < (q : Int) := by omega
              have iz : decide ((i : Int) < (q : Int)) = false := decide_eq_false i1
              have HE : Hid (ns.take i = ns) := hide (List.take_of_length_le (by rw [unhide HQ]; omega))
              have HCL := hide (clM_nms (unhide HN0))
              have HRC := hide (unhide HR)
              have HLC := hide (unhide HLN)
              rw [unhide HE] at HRC HLC
              clear HR HLN HE
              generalize wr = WB at *
              by_cases hm0 : m = 0
              rotate_left
              · have d1 : decide (0 < m) = true := decide_eq_true (by omega)
                have d2 : decide ((m : Int) > 0) = true := decide_eq_true (by omega)
                have d3 : 0 < m := by omega
                have HM0 := hide hm0
                clear hm0
                go_wp2_with fail
                refine bodyPost_ret (v := .tuple #[(.slice (some ⟨w.heap.size, 0, none⟩) 0 0), .int .i64 13, .slice ug m cg]) (by simp [results, Try.results15, go_sem]; done) rfl ?_
                exact unhide NIL _ (unhide HD) 13 _ (ns.filter (clM B O T)) ⟨0, unhide HVC, .inr ⟨rfl, _, unhide HCL, .inl ⟨(fun e => unhide HM0 (by rw [← unhide HLC, e]; rfl)), rfl, rfl, rfl⟩⟩⟩ (own_mono (by rw [← unhide HLC] at HRC; have := unhide HRC; rw [unhide HLC] at this ⊢; exact this) (by omega))
              subst hm0
              have HCN : Hid (ns.filter (clM B O T) = []) := hide (List.eq_nil_of_length_eq_zero (unhide HLC))
              have HCL0 : Hid (Nms (fun s => clM B O T s = true) []) := hide (by rw [← unhide HCN]; exact unhide HCL)
              clear HCN HCL HRC HLC HW3 HST HQ HN0
              have hbs : w.heap.size + 2 ≤ WB.heap.size := unhide HSZ _ (unhide HD)
              obtain ⟨b0, hb0⟩ : ∃ b0, WB.heap.size = b0 := ⟨_, rfl⟩
              have HB0 := hide hb0
              rw [hb0] at hbs
              have HDX := hide (unhide HD)
              have HRX := hide (ba (Below.refl WB.heap.size WB) (.cells #[] 57))
              rw [hb0] at HRX
              have HR0 := hide (own_made WB 57 b0 15 (by omega) _ rfl)
              have HTOX := hide (fun W (h : Below b0 WB W) => ((unhide HDX).trans (h.mono hbs) : Below (w.heap.size + 2) ((w.alloc (.cells #[] 57)).alloc (.cells #[.slice u1 n1 c1, .slice u2 n2 c2, .slice u3 n3 c3] 27)) W))
              have HU1 : Hid (SlG ftc 15 w u1 p1 o1 B) := hide (unhide H1).at_
              have HGO := hide (fun s W (h : Below w.heap.size w W) => getM_any u2 p2 o2 n2 c2 O s W (unhide HL2) (by omega) ((unhide H2).at_.bel h))
              have HGT := hide (fun s W (h : Below w.heap.size w W) => getM_any u3 p3 o3 n3 c3 T s W (unhide HL3) (by omega) ((unhide H3).at_.bel h))
              have HED := hide (fun s W (h : Below w.heap.size w W) => editM_any u1 p1 o1 n1 c1 B u2 p2 o2 n2 c2 O s W (unhide HL1) (by omega) ((unhide H1).at_.bel h) (unhide HL2) (by omega) ((unhide H2).at_.bel h))
              have HFB := hide (fun s W (h : Below w.heap.size w W) => find_any u1 p1 o1 n1 c1 B s W (unhide HL1) (by omega) ((unhide HU1).bel h))
              clear HD hb0
              have d1 : decide ((0 : Nat) < 0) = false := decide_eq_false (by omega)
              have d2 : decide (((0 : Nat) : Int) > 0) = false := decide_eq_false (by omega)
              go_wp2_with fail
              go_loopw [21, 22] (fun v s W => ∃ (i m : Nat), s = .int .i64 (i : Int) ∧ i ≤ n1 ∧ m ≤ i ∧ ((B.take i).filterMap (mgB B O T)).length = m ∧ W.ownsRow b0 57 15 v m (flatG ftc ((B.take i).filterMap (mgB B O T))) ∧ Below b0 WB W ∧ b0 ≤ W.heap.size) (fun _ s _ => n1 - (intOf s).toNat)
              case atStart => exact ⟨0, 0, rfl, Nat.zero_le _, Nat.le_refl _, rfl, unhide HR0, unhide HRX, by simp; have := unhide HB0; omega⟩
              case round =>
                obtain ⟨i, m, rfl, hi1, hmi, hlen, hrow, hd, hbs2⟩ := hrel
                have HR := hide hrow
                have HDr := hide hd
                have HBS := hide hbs2
                have HTX := hide (unhide HTOX _ hd)
                have HW := hide (unhide HTOW _ (unhide HTX))
                have HLN := hide hlen
                obtain ⟨ug, cg, rfl, _⟩ := own_form hrow
                clear hrow hd hlen hbs2 d1 d2
                by_cases h : i < n1
                · have i1 : (i : Int) < (n1 : Int) := by omega
                  have i0 : (0 : Int) ≤ (i : Int) := Int.natCast_nonneg _
                  have iz : decide ((i : Int) < (n1 : Int)) = true := decide_eq_true i1
                  obtain ⟨x, hx⟩ := get_some (unhide HL1) h
                  obtain ⟨rfl, kx, _⟩ := ((unhide HU1).bel (unhide HW)).at15 hx
                  have HKX := hide (fun W (h : Below w.heap.size w W) => (((unhide HU1).bel h).at15 hx).2.1)
                  have k0 := unhide HKX _ (unhide HW)
                  have HTK := hide (filterMap_take (mgB B O T) hx)
                  have HHE := hide (unhide HED x.nm _ (unhide HW))
                  have hap : mgB B O T x = if 0 < knd B O x.nm then gtF O x.nm else gtF T x.nm := rfl
                  have HAP := hide hap
                  generalize knd B O x.nm = kk at *
                  have HGO2 := hide (unhide HGO x.nm)
                  have HGT2 := hide (unhide HGT x.nm)
                  generalize x.nm = nx at *
                  generalize mgB B O T x = mx at *
                  clear hx kx hap
                  go_wp2_with fail
                  refine (unhide HHE).mono ?_
                  rintro e W4 ⟨rfl, hb4⟩
                  have HW4 := hide (bc (unhide HW) hb4)
                  have HD4 := hide ((unhide HDr).trans (hb4.mono (unhide HBS)))
                  have HR4 := hide (own_bel (unhide HR) hb4)
                  have HBS4 := hide (Nat.le_trans (unhide HBS) hb4.size)
                  have k4 := unhide HKX _ (unhide HW4)
                  clear hb4 k0 HHE
                  by_cases e1 : 0 < kk
                  · have e2 : decide (0 < kk) = true := decide_eq_true e1
                    have e3 : decide (kk > 0) = true := decide_eq_true e1
                    have HM : Hid (mx = gtF O nx) := hide (by rw [unhide HAP, if_pos e1])
                    have HGX := hide (unhide HGO2 _ (unhide HW4))
                    obtain ⟨F, hF⟩ := fl_ex ((gtF O nx).getD ft0)
                    rw [hF.v] at HGX
                    have HI := hide hF.info
                    have HO := hide hF.one
                    have HF := hide hF
                    have hfold := fold_F hF
                    have hsz := hF.size
                    have HLF := hide (fun g W (h : ab W g 57 F) => hF.load0 h)
                    clear hF
                    go_wp2_with fail
                    refine (unhide HGX).mono ?_
                    rintro e W5 ⟨rfl, hb5⟩
                    have HW5 := hide (bc (unhide HW4) hb5)
                    have HD5 := hide ((unhide HD4).trans (hb5.mono (unhide HBS4)))
                    have HR5 := hide (own_bel (unhide HR4) hb5)
                    have HBS5 := hide (Nat.le_trans (unhide HBS4) hb5.size)
                    have HN := hide (ab_new W5 57 F _ rfl)
                    have HWN := hide (ba (unhide HW5) (.cells F 57))
                    have HDN := hide (Below.alloc (unhide HD5) (unhide HBS5) (.cells F 57))
                    have HBN : Hid (b0 ≤ (W5.alloc (.cells F 57)).heap.size) := hide (Nat.le_trans (unhide HBS5) (by simp))
                    have HRN := hide (own_bel (unhide HR5) (ba (Below.refl _ _) (.cells F 57)))
                    clear hb5 k4 HGX
                    cases hg : gtF O nx with
                    | none =>
                      have HTK2 : Hid ((B.take (i + 1)).filterMap (mgB B O T) = (B.take i).filterMap (mgB B O T)) := hide (by rw [unhide HTK, unhide HM, hg]; simp)
                      clear hg
                      go_wp2_with (refine wpl_putNew rfl 57 _ _ rfl W5 _ F 57 rfl rfl (unhide HI) (by rw [hsz]; rfl) (unhide HO) ?_)
                      go_roundw
                      case rel => exact ⟨i + 1, m, by simp, h, by omega, by rw [unhide HTK2, unhide HLN], by rw [unhide HTK2]; exact unhide HRN, unhide HDN, unhide HBN⟩
                      case measure => simp only [intOf]; omega
                    | some y =>
                      have HFY : Hid (Fl F y) := hide (by have := unhide HF; rw [hg] at this; exact this)
                      have HTK2 : Hid ((B.take (i + 1)).filterMap (mgB B O T) = (B.take i).filterMap (mgB B O T) ++ [y]) := hide (by rw [unhide HTK, unhide HM, hg]; rfl)
                      clear hg
                      go_wp2_with (first
                        | refine wpl_putNew rfl 57 _ _ rfl W5 _ F 57 rfl rfl (unhide HI) (by rw [hsz]; rfl) (unhide HO) ?_
                        | refine wpl_loadAt rfl 57 (.tmp 24) rfl _ rfl _ (unhide HLF _ _ (unhide HN)) ?_
                        | (at_builtin; refine unhide ?_))
                      refine hide ?_
                      refine wpList_append_own _ rfl _ _ 27 rfl b0 57 iF _ 15 144 Try.underlying27 hi hx0 hx1 hx2 rfl (by decide) _ m _ rfl (own_bel (unhide HRN) (ba (Below.refl _ _) _)) _ 1 1 (ftc y) rfl rfl (news_F (unhide HFY) _ (by simp)) (ftc_one y) (by unfold maxLen; omega) (by omega) (Nat.le_trans (unhide HBN) (by simp)) ?_
                      intro v' w1 hown' hgrow _
                      have R := hide (own_ft (Below.alloc (Below.refl b0 _) (unhide HBN) _) (Nat.le_trans (unhide HBN) (by simp)) (unhide HRN) hown' hgrow)
                      clear hown' hgrow
                      go_wp2_with fail
                      go_roundw
                      case rel => exact ⟨i + 1, m + 1, by simp, h, by omega, by rw [unhide HTK2, List.length_append, unhide HLN]; rfl, by rw [unhide HTK2]; exact (unhide R).1, (unhide HDN).trans (unhide R).2, Nat.le_trans (unhide HBN) (unhide R).2.size⟩
                      case measure => simp only [intOf]; omega
                  · have e2 : decide (0 < kk) = false := decide_eq_false e1
                    have e3 : decide (kk > 0) = false := decide_eq_false e1
                    have HM : Hid (mx = gtF T nx) := hide (by rw [unhide HAP, if_neg e1])
                    have HGX := hide (unhide HGT2 _ (unhide HW4))
                    obtain ⟨F, hF⟩ := fl_ex ((gtF T nx).getD ft0)
                    rw [hF.v] at HGX
                    have HI := hide hF.info
                    have HO := hide hF.one
                    have HF := hide hF
                    have hfold := fold_F hF
                    have hsz := hF.size
                    have HLF := hide (fun g W (h : ab W g 57 F) => hF.load0 h)
                    clear hF
                    go_wp2_with fail
                    refine (unhide HGX).mono ?_
                    rintro e W5 ⟨rfl, hb5⟩
                    have HW5 := hide (bc (unhide HW4) hb5)
                    have HD5 := hide ((unhide HD4).trans (hb5.mono (unhide HBS4)))
                    have HR5 := hide (own_bel (unhide HR4) hb5)
                    have HBS5 := hide (Nat.le_trans (unhide HBS4) hb5.size)
                    have HN := hide (ab_new W5 57 F _ rfl)
                    have HWN := hide (ba (unhide HW5) (.cells F 57))
                    have HDN := hide (Below.alloc (unhide HD5) (unhide HBS5) (.cells F 57))
                    have HBN : Hid (b0 ≤ (W5.alloc (.cells F 57)).heap.size) := hide (Nat.le_trans (unhide HBS5) (by simp))
                    have HRN := hide (own_bel (unhide HR5) (ba (Below.refl _ _) (.cells F 57)))
                    clear hb5 k4 HGX
                    cases hg : gtF T nx with
                    | none =>
                      have HTK2 : Hid ((B.take (i + 1)).filterMap (mgB B O T) = (B.take i).filterMap (mgB B O T)) := hide (by rw [unhide HTK, unhide HM, hg]; simp)
                      clear hg
                      go_wp2_with (refine wpl_putNew rfl 57 _ _ rfl W5 _ F 57 rfl rfl (unhide HI) (by rw [hsz]; rfl) (unhide HO) ?_)
                      go_roundw
                      case rel => exact ⟨i + 1, m, by simp, h, by omega, by rw [unhide HTK2, unhide HLN], by rw [unhide HTK2]; exact unhide HRN, unhide HDN, unhide HBN⟩
                      case measure => simp only [intOf]; omega
                    | some y =>
                      have HFY : Hid (Fl F y) := hide (by have := unhide HF; rw [hg] at this; exact this)
                      have HTK2 : Hid ((B.take (i + 1)).filterMap (mgB B O T) = (B.take i).filterMap (mgB B O T) ++ [y]) := hide (by rw [unhide HTK, unhide HM, hg]; rfl)
                      clear hg
                      go_wp2_with (first
                        | refine wpl_putNew rfl 57 _ _ rfl W5 _ F 57 rfl rfl (unhide HI) (by rw [hsz]; rfl) (unhide HO) ?_
                        | refine wpl_loadAt rfl 57 (.tmp 24) rfl _ rfl _ (unhide HLF _ _ (unhide HN)) ?_
                        | (at_builtin; refine unhide ?_))
                      refine hide ?_
                      refine wpList_append_own _ rfl _ _ 27 rfl b0 57 iF _ 15 144 Try.underlying27 hi hx0 hx1 hx2 rfl (by decide) _ m _ rfl (own_bel (unhide HRN) (ba (Below.refl _ _) _)) _ 1 1 (ftc y) rfl rfl (news_F (unhide HFY) _ (by simp)) (ftc_one y) (by unfold maxLen; omega) (by omega) (Nat.le_trans (unhide HBN) (by simp)) ?_
                      intro v' w1 hown' hgrow _
                      have R := hide (own_ft (Below.alloc (Below.refl b0 _) (unhide HBN) _) (Nat.le_trans (unhide HBN) (by simp)) (unhide HRN) hown' hgrow)
                      clear hown' hgrow
                      go_wp2_with fail
                      go_roundw
                      case rel => exact ⟨i + 1, m + 1, by simp, h, by omega, by rw [unhide HTK2, List.length_append, unhide HLN]; rfl, by rw [unhide HTK2]; exact (unhide R).1, (unhide HDN).trans (unhide R).2, Nat.le_trans (unhide HBN) (unhide R).2.size⟩
                      case measure => simp only [intOf]; omega
                · have i1 : ¬ (i : Int) < (n1 : Int) := by omega
                  have iz : decide ((i : Int) < (n1 : Int)) = false := decide_eq_false i1
                  have HE : Hid ((B.take i).filterMap (mgB B O T) = B.filterMap (mgB B O T)) := hide (by rw [List.take_of_length_le (by rw [unhide HL1]; omega)])
                  have HRB := hide (unhide HR)
                  have HLB := hide (unhide HLN)
                  rw [unhide HE] at HRB HLB
                  have hm30 : m ≤ 30 := by omega
                  have HE1 : Hid (mkV B [B, O, T] (B.filterMap (mgB B O T)) 1 = B.filterMap (mgB B O T)) := hide rfl
                  have HDB := hide (unhide HDr)
                  have HBB := hide (unhide HBS)
                  clear HR HLN HE HED HGO HGT HDr HBS HW HTX
                  go_wp2_with fail
                  go_loopw [21, 26] (fun v s W => ∃ (k q : Nat), s = .int .i64 (k : Int) ∧ 1 ≤ k ∧ k ≤ 3 ∧ q ≤ 30 * k ∧ (mkV B [B, O, T] (B.filterMap (mgB B O T)) k).length = q ∧ W.ownsRow b0 57 15 v q (flatG ftc (mkV B [B, O, T] (B.filterMap (mgB B O T)) k)) ∧ Below b0 WB W ∧ b0 ≤ W.heap.size) (fun _ s _ => 3 - (intOf s).toNat)
                  case atStart => exact ⟨1, m, rfl, Nat.le_refl _, by omega, by omega, by rw [unhide HE1]; exact unhide HLB, by rw [unhide HE1]; exact unhide HRB, unhide HDB, unhide HBB⟩
                  case round =>
                    obtain ⟨k, q, rfl, hk1, hk3, hq, hlen, hrow, hd, hbs2⟩ := hrel
                    have HR := hide hrow
                    have HDr := hide hd
                    have HBS := hide hbs2
                    have HLN := hide hlen
                    obtain ⟨ug, cg, rfl, _⟩ := own_form hrow
                    clear hrow hd hlen hbs2 HRB HLB HDB HBB
                    by_cases h : k < 3
                    · have i1 : (k : Int) < (3 : Int) := by omega
                      have i0 : (0 : Int) ≤ (k : Int) := Int.natCast_nonneg _
                      have iz : decide ((k : Int) < (3 : Int)) = true := decide_eq_true i1
                      obtain ⟨l, hx⟩ := get_some (unhide HLL) h
                      have HKL := hide (fun W (hh : Below b0 WB W) => (by have := (unhide HLA _ (unhide HTOX _ hh)).2 k l hx; simpa only [Ls.v, Nat.zero_add] using this : W.cell? ⟨w.heap.size + 1, k, none⟩ = some (.slice l.u l.fs.length l.cu)))
                      have HLU := hide (fun W (hh : Below b0 WB W) => ((unhide HOK k l hx).at_.bel (unhide HTOW _ (unhide HTOX _ hh)) : SlG ftc 15 W l.u l.p l.po l.fs))
                      have hvs : ([B, O, T] : List (List Ft))[k]? = some l.fs := by rw [← unhide HFS]; unfold fss; rw [List.getElem?_map, hx]; rfl
                      have HMK := hide (mkV_succ (B := B) (M := B.filterMap (mgB B O T)) hk1 hvs)
                      have hl30 : l.fs.length ≤ 30 := by
                        have hm : l.fs ∈ [B, O, T] := List.mem_of_getElem? hvs
                        simp only [List.mem_cons, List.not_mem_nil, or_false] at hm
                        rcases hm with e | e | e <;> rw [e]
                        · exact (unhide HF1).len
                        · exact (unhide HF2).len
                        · exact (unhide HF3).len
                      clear hx hvs
                      obtain ⟨lu, lp, lo, lc, X⟩ := l
                      simp only at HKL HLU HMK hl30
                      obtain ⟨nl, hnl⟩ : ∃ nl, X.length = nl := ⟨_, rfl⟩
                      have HNL := hide hnl
                      rw [hnl] at HKL hl30
                      clear hnl
                      generalize mkV B [B, O, T] (B.filterMap (mgB B O T)) k = M at *
                      go_wp2_with fail
                      go_loopw [21, 27] (fun v s W => ∃ (i t : Nat), s = .int .i64 (i : Int) ∧ i ≤ nl ∧ t ≤ q + i ∧ (adL B (X.take i) M).length = t ∧ W.ownsRow b0 57 15 v t (flatG ftc (adL B (X.take i) M)) ∧ Below b0 WB W ∧ b0 ≤ W.heap.size) (fun _ s _ => nl - (intOf s).toNat)
                      case atStart => exact ⟨0, q, rfl, Nat.zero_le _, by omega, unhide HLN, unhide HR, unhide HDr, unhide HBS⟩
                      case round =>
                        obtain ⟨i, t, rfl, hi1, hti, hlen, hrow, hd, hbs2⟩ := hrel
                        obtain ⟨ut, ct, pt, rfl, hct, hst⟩ := own_slF (l := adL B (X.take i) M) (by rw [hlen]; exact hrow)
                        rw [hlen] at hct hrow ⊢
                        have HR2 := hide hrow
                        have HD2 := hide hd
                        have HBS2 := hide hbs2
                        have HLN2 := hide hlen
                        clear hrow hd hlen hbs2
                        have kl := unhide HKL _ (unhide HD2)
                        have HW2 := hide (unhide HTOW _ (unhide HTOX _ (unhide HD2)))
                        by_cases hh : i < nl
                        · have j1 : (i : Int) < (nl : Int) := by omega
                          have j0 : (0 : Int) ≤ (i : Int) := Int.natCast_nonneg _
                          have jz : decide ((i : Int) < (nl : Int)) = true := decide_eq_true j1
                          obtain ⟨x, hx⟩ := get_some (unhide HNL) hh
                          obtain ⟨F, hF⟩ := fl_ex x
                          obtain ⟨rfl, hpw, hld⟩ := SlG.load hF (unhide HLU _ (unhide HD2)) hx
                          have k0 := ((unhide HLU _ (unhide HD2)).at15 hx).2.1
                          have LD := hide hld
                          have HF := hide hF
                          have hfold := fold_F hF
                          have hsz := hF.size
                          have HTK := hide (adL_take (B := B) (M := M) hx)
                          have hap : adS B (adL B (X.take i) M) x = if (gtF (adL B (X.take i) M) x.nm).isNone && (gtF B x.nm).isNone then adL B (X.take i) M ++ [x] else adL B (X.take i) M := rfl
                          have HAP := hide hap
                          have HFM := hide (find_any ut pt 0 t ct (adL B (X.take i) M) x.nm wr (unhide HLN2) (by omega) hst)
                          have HFB2 := hide (unhide HFB x.nm _ (unhide HW2))
                          have hfa := findI_none' (fs := adL B (X.take i) M) (s := x.nm)
                          have hfb := findI_none' (fs := B) (s := x.nm)
                          have HNA := hide hfa
                          have HNB := hide hfb
                          clear hld hx hF hap hst hfa hfb
                          generalize hM2 : adL B (X.take i) M = M2 at *
                          generalize findI M2 x.nm = fa at *
                          generalize findI B x.nm = fb at *
                          by_cases e1 : fa < 0
                          · have d1 : decide (fa < 0) = true := decide_eq_true e1
                            have HG1 := hide ((unhide HNA).1 e1)
                            by_cases e2 : fb < 0
                            · have d2 : decide (fb < 0) = true := decide_eq_true e2
                              have HG2 := hide ((unhide HNB).1 e2)
                              have HTK2 : Hid (adL B (X.take (i + 1)) M = M2 ++ [x]) := hide (by rw [unhide HTK, unhide HAP, unhide HG1, unhide HG2]; rfl)
                              clear HAP HTK HG1 HG2 HNA HNB
                              go_wp2_with fail
                              refine (unhide HFM).mono ?_
                              rintro e W4 ⟨rfl, rfl⟩
                              go_wp2_with fail
                              refine (unhide HFB2).mono ?_
                              rintro e W4 ⟨rfl, rfl⟩
                              go_wp2_with (first
                                | refine wpl_loadAt rfl 57 (.tmp 205) rfl _ rfl _ (unhide LD) ?_
                                | (at_builtin; refine unhide ?_))
                              refine hide ?_
                              refine wpList_append_own _ rfl _ _ 27 rfl b0 57 iF _ 15 144 Try.underlying27 hi hx0 hx1 hx2 rfl (by decide) _ t _ rfl (own_bel (unhide HR2) (ba (Below.refl _ _) _)) _ 1 1 (ftc x) rfl rfl (news_F (unhide HF) _ (by simp)) (ftc_one x) (by unfold maxLen; omega) (by omega) (Nat.le_trans (unhide HBS2) (by simp)) ?_
                              intro v' w1 hown' hgrow _
                              have R := hide (own_ft (Below.alloc (Below.refl b0 _) (unhide HBS2) _) (Nat.le_trans (unhide HBS2) (by simp)) (unhide HR2) hown' hgrow)
                              clear hown' hgrow
                              go_wp2_with fail
                              go_roundw
                              case rel => exact ⟨i + 1, t + 1, by simp, hh, by omega, by rw [unhide HTK2, List.length_append, unhide HLN2]; rfl, by rw [unhide HTK2]; exact (unhide R).1, (unhide HD2).trans (unhide R).2, Nat.le_trans (unhide HBS2) (unhide R).2.size⟩
                              case measure => simp only [intOf]; omega
                            · have d2 : decide (fb < 0) = false := decide_eq_false e2
                              have hg : (gtF B x.nm).isNone = false := by
                                cases e : gtF B x.nm with
                                | none => exact (e2 ((unhide HNB).2 e)).elim
                                | some y => rfl
                              have HTK2 : Hid (adL B (X.take (i + 1)) M = M2) := hide (by rw [unhide HTK, unhide HAP, hg]; simp)
                              clear HAP HTK HG1 HNA HNB hg
                              go_wp2_with fail
                              refine (unhide HFM).mono ?_
                              rintro e W4 ⟨rfl, rfl⟩
                              go_wp2_with fail
                              refine (unhide HFB2).mono ?_
                              rintro e W4 ⟨rfl, rfl⟩
                              go_wp2_with fail
                              go_roundw
                              case rel => exact ⟨i + 1, t, by simp, hh, by omega, by rw [unhide HTK2]; exact unhide HLN2, by rw [unhide HTK2]; exact unhide HR2, unhide HD2, unhide HBS2⟩
                              case measure => simp only [intOf]; omega
                          · have d1 : decide (fa < 0) = false := decide_eq_false e1
                            have hg : (gtF M2 x.nm).isNone = false := by
                              cases e : gtF M2 x.nm with
                              | none => exact (e1 ((unhide HNA).2 e)).elim
                              | some y => rfl
                            have HTK2 : Hid (adL B (X.take (i + 1)) M = M2) := hide (by rw [unhide HTK, unhide HAP, hg]; simp)
                            clear HAP HTK HNA HNB hg
                            go_wp2_with fail
                            refine (unhide HFM).mono ?_
                            rintro e W4 ⟨rfl, rfl⟩
                            go_wp2_with fail
                            go_roundw
                            case rel => exact ⟨i + 1, t, by simp, hh, by omega, by rw [unhide HTK2]; exact unhide HLN2, by rw [unhide HTK2]; exact unhide HR2, unhide HD2, unhide HBS2⟩
                            case measure => simp only [intOf]; omega
                        · have j1 : ¬ (i : Int) < (nl : Int) := by omega
                          have jz : decide ((i : Int) < (nl : Int)) = false := decide_eq_false j1
                          have HE2 : Hid (X.take i = X) := hide (List.take_of_length_le (by rw [unhide HNL]; omega))
                          rw [unhide HE2] at HR2 HLN2
                          clear hst
                          go_wp2_with fail
                          go_roundw
                          case rel => exact ⟨k + 1, t, by simp, by omega, h, by omega, by rw [unhide HMK]; exact unhide HLN2, by rw [unhide HMK]; exact unhide HR2, unhide HD2, unhide HBS2⟩
                          case measure => simp only [intOf]; omega
                    · have i1 : ¬ (k : Int) < (3 : Int) := by omega
                      have iz : decide ((k : Int) < (3 : Int)) = false := decide_eq_false i1
                      obtain rfl : k = 3 := by omega
                      have hmg : mkV B [B, O, T] (B.filterMap (mgB B O T)) 3 = mrgM B O T := rfl
                      have HRM := hide (unhide HR)
                      have HLM := hide (unhide HLN)
                      rw [hmg] at HRM HLM
                      obtain ⟨um, cm, pm, em, hcm, hsm⟩ : ∃ u c p, Value.slice ug q cg = .slice u q c ∧ q ≤ c ∧ SlG ftc 15 wr u p 0 (mrgM B O T) := by
                        have hr := unhide HRM
                        have hl := unhide HLM
                        have := own_slF (l := mrgM B O T) (by rw [hl]; exact hr)
                        rw [hl] at this
                        exact this
                      have eu : ug = um := by injection em
                      have ec : cg = cm := by injection em
                      subst eu
                      subst ec
                      have HCK := hide (checkM_any ug pm 0 q cg (mrgM B O T) wr (unhide HLM) (by omega) hcm (by
                        intro f hf
                        rcases mrgM_mem hf with h | h | h
                        · exact (unhide H1).size f h
                        · exact (unhide H2).size f h
                        · exact (unhide H3).size f h) hsm)
                      clear em hcm hsm hmg HR HLN
                      go_wp2_with fail
                      refine (unhide HCK).mono ?_
                      rintro e W8 ⟨⟨v1, c, v3, ab, rfl, hck, hsr, hok⟩, hb8⟩
                      have HC8 := hide hck
                      have HB8 := hide ((unhide HDr).trans (hb8.mono (unhide HBS)))
                      have HR8 := hide (own_bel (unhide HRM) hb8)
                      have HS8 := hide (SRow.mono hsr (by have := unhide HBS; omega : w.heap.size ≤ wr.heap.size))
                      clear hck hsr hok hb8 HCK
                      by_cases hc : c = 0
                      rotate_left
                      · have c0 : (c != 0) = true := by simpa using hc
                        have HC0 := hide hc
                        clear hc
                        go_wp2_with fail
                        refine bodyPost_ret (v := .tuple #[(.slice (some ⟨w.heap.size, 0, none⟩) 0 0), .int .i64 c, v3]) (by simp [results, Try.results15, go_sem]; done) rfl ?_
                        exact unhide NIL _ (unhide HTOX _ (unhide HB8)) c _ ab ⟨0, unhide HVC, .inr ⟨rfl, [], unhide HCL0, .inr ⟨rfl, c, ab, unhide HC8, .inl ⟨unhide HC0, rfl, rfl, rfl⟩⟩⟩⟩ (unhide HS8)
                      subst hc
                      have HTX8 := hide (unhide HTOX _ (unhide HB8))
                      go_wp2_with fail
                      refine bodyPost_ret (v := .tuple #[.slice ug q cg, .int .i64 0, .slice (some ⟨W8.heap.size, 0, none⟩) 0 0]) (by simp [results, Try.results15, go_sem]; done) rfl ?_
                      refine ⟨⟨_, 0, mrgM B O T, _, [], rfl, ⟨0, unhide HVC, .inr ⟨rfl, [], unhide HCL0, .inr ⟨rfl, 0, ab, unhide HC8, .inr ⟨rfl, rfl, rfl, rfl⟩⟩⟩⟩, ?_, own_made W8 9 w.heap.size 1 (by have := unhide HSZ _ (unhide HTX8); omega) _ rfl⟩, unhide HTOW _ (Below.alloc (unhide HTX8) (unhide HSZ _ (unhide HTX8)) _)⟩
                      have hr := own_mono (own_bel (unhide HR8) (ba (Below.refl _ _) (.cells #[] 9))) (show w.heap.size ≤ b0 by omega)
                      rw [unhide HLM]
                      exact hr
end Go.Proofs.Ytkkmikgeppkhiaa
