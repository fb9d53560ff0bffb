/-
  The model's names of what hangs on a feature.
-/
import Derived.Test.YtbenhicdhiichaaDmMath
namespace Go.Proofs.Ytbenhicdhiichaa
open Go.ChangeShapes Go.WideShapes Go.ChangeAt Go.RowKit Go.Maps Go.WideMaps
set_option linter.unusedVariables false
set_option linter.unusedSimpArgs false

theorem strs_app (fs : List Ft) (M : List Nat) (k : Nat) : strs ((M ++ [k]).map (nmOf fs)) = strs (M.map (nmOf fs)) ++ strs [nmOf fs k] := by simp [strs]
theorem mgo_len (nm : List (List Nat)) (sd : Nat → Bool) (M : List Nat) (k : Nat) : mgo nm sd M k = if (mgo nm sd M k).length = M.length then M else M ++ [k] := by
  unfold mgo
  split <;> simp
set_option maxRecDepth 100000 in
set_option maxHeartbeats 8000000 in
theorem depM_any (u : Option Addr) (p po n cu : Nat) (fs : List Ft) (s : ByteArray) (w : World) (hl : fs.length = n) (hn : n ≤ 1048576) (hcu : n ≤ cu) (hss : s.size ≤ maxLen) (hs : ∀ f ∈ fs, f.nm.size ≤ maxLen ∧ f.on.size ≤ maxLen ∧ f.ov.size ≤ maxLen) (hu : SlG ftc 15 w u p po fs) :
    Calls Try.prog 14 #[.slice u n cu, .string s] w (DpAns fs s w) := by
  obtain ⟨iT, ht, hx0, hx1, hx2⟩ := info_parts info9
  by_cases hlong : 65536 < s.size
  · have d1 : decide ((65536 : Int) < (s.size : Int)) = true := decide_eq_true (by omega)
    have hdp : Dp fs s 2 [] := by unfold Dp; rw [if_pos hlong]; exact ⟨rfl, rfl⟩
    have HD := hide hdp
    clear hu hs hdp
    unfold maxLen at hss
    go_enter Try.func14, Try.ntmps14
    go_wp2_with fail
    refine bodyPost_ret (v := .tuple #[.slice (some ⟨w.heap.size, 0, none⟩) 0 0, .int .i64 2]) (by simp [results, Try.results14, go_sem]; done) rfl ?_
    exact ⟨⟨_, _, _, rfl, unhide HD, own_made w 9 w.heap.size 1 (Nat.le_refl _) _ rfl⟩, ba (Below.refl _ _) _⟩
  have d1 : decide ((65536 : Int) < (s.size : Int)) = false := decide_eq_false (by omega)
  have HRD := hide (checkM_any u p po n cu fs w hl hn hcu hs hu)
  have HU := hide hu
  have HL := hide hl
  clear hu hl hs
  go_enter Try.func14, Try.ntmps14
  go_wp2_with fail
  refine (unhide HRD).mono ?_
  rintro e W1 ⟨⟨v1, c, v3, ab, rfl, hck, hsr, hok⟩, hb⟩
  have HB := hide hb
  obtain ⟨ua, ca, rfl, _⟩ := own_form hsr
  clear hsr HRD
  by_cases hc : c = 0
  rotate_left
  · have hc' : (c == 0) = false := by simpa using hc
    have hdp : Dp fs s c [] := by unfold Dp; rw [if_neg hlong]; exact ⟨c, ab, hck, .inl ⟨hc, rfl, rfl⟩⟩
    have HD := hide hdp
    clear hck hok hb hdp
    go_wp2_with fail
    refine bodyPost_ret (v := .tuple #[.slice (some ⟨W1.heap.size, 0, none⟩) 0 0, .int .i64 c]) (by simp [results, Try.results14, go_sem]; done) rfl ?_
    exact ⟨⟨_, _, _, rfl, unhide HD, own_made W1 9 w.heap.size 1 (unhide HB).size _ rfl⟩, ba (unhide HB) _⟩
  subst hc
  obtain ⟨hfine, rfl⟩ := hck.zero
  obtain ⟨uN, cN, rfl, hna⟩ := hok rfl
  rw [nms_len, unhide HL]
  have hn30 : n ≤ 30 := by have := hfine.len; rw [unhide HL] at this; exact this
  have HF := hide hfine
  have HFD := hide (fun W (hw : Below w.heap.size w W) => find_any u p po n cu fs s W (unhide HL) hn ((unhide HU).bel hw))
  cases hq : findN fs s with
  | none =>
    rw [findI_none hq] at HFD
    have hdp : Dp fs s 8 [] := by unfold Dp; rw [if_neg hlong]; exact ⟨0, [], hck, .inr (.inl ⟨rfl, hq, rfl, rfl⟩)⟩
    have HD := hide hdp
    clear hck hok hb hdp hna hfine hq
    go_wp2_with fail
    refine (unhide HFD _ (unhide HB)).mono ?_
    rintro e W2 ⟨rfl, hw2⟩
    rw [hw2]
    clear hw2 W2
    go_wp2_with fail
    refine bodyPost_ret (v := .tuple #[.slice (some ⟨W1.heap.size, 0, none⟩) 0 0, .int .i64 8]) (by simp [results, Try.results14, go_sem]; done) rfl ?_
    exact ⟨⟨_, _, _, rfl, unhide HD, own_made W1 9 w.heap.size 1 (unhide HB).size _ rfl⟩, ba (unhide HB) _⟩
  | some q =>
    rw [findI_some hq] at HFD
    have q1 : ¬ (q : Int) < 0 := by omega
    have qz : decide ((q : Int) < 0) = false := decide_eq_false q1
    have hqn : q < n := by have := findN_lt hq; rw [unhide HL] at this; exact this
    have hoall : (ord (nms fs)).length = (nms fs).length := by rw [nms_len]; exact hfine.all
    have HOM := hide (orderM_any uN n cN (nms fs) W1 (by rw [nms_len]; exact unhide HL) (by omega) hna (fun l h => ⟨by have := hfine.one.one l h; omega, by have := hfine.one.lt l h; rw [nms_len, unhide HL] at this; exact this⟩) hoall)
    have hdp : Dp fs s 0 ((mrk (nms fs) (fun k => k == q) (ord (nms fs))).map (nmOf fs)) := by unfold Dp; rw [if_neg hlong]; exact ⟨0, [], hck, .inr (.inr ⟨rfl, q, hq, rfl, rfl⟩)⟩
    have HD := hide hdp
    have HNA := hide hna
    have HQ := hide hq
    have HOA := hide hoall
    have hmk := fun W => make_vals (P := Try.prog) 60 4 1 n (.bool false) rfl Try.underlying60 info4 (by omega) (by omega) W
    rw [← bl_nil] at hmk
    clear hck hok hb hdp hna hfine hq hoall
    go_wp2_with fail
    refine (unhide HFD _ (unhide HB)).mono ?_
    rintro e W2 ⟨rfl, hw2⟩
    rw [hw2]
    clear hw2 W2
    go_wp2_with fail
    refine (unhide HOM).mono ?_
    rintro e W2 ⟨vo, rfl, hrow, hb2⟩
    obtain ⟨uo, co, rfl, hfo⟩ := hrow.form
    have hlo : (ord (nms fs)).length = n := by rw [(unhide HF).all]; exact unhide HL
    have hinn : Inn W2 (.slice uo n co) (ord (nms fs)) := by
      have h2 := hrow
      rw [← hlo] at h2
      have := h2.inn
      rw [hlo] at this
      exact this
    have HIN := hide hinn
    have HLO := hide hlo
    have HB2 := hide (bc (unhide HB) hb2)
    have HNA2 := hide ((unhide HNA).bel hb2)
    have HV0 := hide ((vb_new W2 4 (bl n []) _ rfl).bel (ba (Below.refl _ _) (.cells #[] 9)))
    have HR0 := hide (own_made (W2.alloc (.cells (bl n []).toArray 4)) 9 (W2.heap.size + 1) 1 (by simp) _ rfl)
    have HBC := hide (ba (ba (Below.refl W2.heap.size W2) (.cells (bl n []).toArray 4)) (.cells #[] 9))
    simp only [World.size_alloc] at HR0
    clear hrow hfo hinn hb2 hlo HOM HFD
    go_wp2_with fail
    clear hmk
    go_loopw [11, 12] (fun v z W => ∃ i : Nat, z = .int .i64 (i : Int) ∧ i ≤ n ∧ W.ownsRow (W2.heap.size + 1) 9 1 v (mrk (nms fs) (fun k => k == q) (wo (nms fs) i)).length (strs ((mrk (nms fs) (fun k => k == q) (wo (nms fs) i)).map (nmOf fs))) ∧ vb W W2.heap.size 4 (bl n (mrk (nms fs) (fun k => k == q) (wo (nms fs) i))) ∧ W2.heap.size + 1 ≤ W.heap.size ∧ Below W2.heap.size W2 W) (fun _ z _ => n - (intOf z).toNat)
    case atStart => exact ⟨0, rfl, Nat.zero_le _, unhide HR0, unhide HV0, by simp, unhide HBC⟩
    case round =>
      obtain ⟨i, rfl, hin, hown, hvb, hsz, hbw⟩ := hrel
      rename World => W5
      have hml : (mrk (nms fs) (fun k => k == q) (wo (nms fs) i)).length ≤ 4096 := by
        have h1 := (marks_one (unhide HF).one [q] (fun k => k == q) (fun k _ => by rw [Bool.eq_iff_iff]; simp) i).2.2.2
        rw [h1]
        have h2 := List.length_filter_le (fun j => (mrk (nms fs) (fun k => k == q) (wo (nms fs) i)).contains j) (wo (nms fs) i)
        have h3 := wo_len (nms fs) i
        rw [nms_len, unhide HL] at h3
        omega
      obtain ⟨uh, ch, rfl, _⟩ := own_form hown
      have HOW := hide hown
      have HV := hide hvb
      have HBW := hide hbw
      have HWW := hide (bc (unhide HB2) hbw)
      clear hown hvb hbw HV0 HR0 HBC
      by_cases h : i < n
      · have i1 : (i : Int) < (n : Int) := by omega
        have i0 : (0 : Int) ≤ (i : Int) := Int.natCast_nonneg _
        have iz : decide ((i : Int) < (n : Int)) = true := decide_eq_true i1
        have hnl : (nms fs).length = n := by rw [nms_len]; exact unhide HL
        obtain ⟨k, hk⟩ := wo_next (unhide HOA) (show i < (nms fs).length by omega) (wo_full (unhide HOA) i (by omega))
        obtain ⟨k1, k2, k3, _⟩ := ff_some hk
        rw [hnl] at k1
        have hoi := ord_at (unhide HOA) (by omega) hk
        obtain ⟨u8, c8, e8, h8⟩ := unhide HIN
        have e9 : uo = u8 := by injection e8
        subst e9
        obtain ⟨go, oo, rfl, hgo, hio⟩ := h8 (by intro e; rw [e] at hoi; cases hoi)
        have b0 := (hio.below (unhide HBW) hgo) i _ (nats_at hoi)
        obtain ⟨f, hx⟩ := get_some (unhide HL) k1
        have hnm := name_at (unhide HF).once (unhide HQ) hx
        obtain ⟨l, hxl⟩ := get_some hnl k1
        have hll : l.length ≤ 1 := (unhide HF).one.one l (List.mem_of_getElem? hxl)
        have hgd : (nms fs).getD k [] = l := by rw [List.getD_eq_getElem?_getD, hxl]; rfl
        rw [hgd] at k3
        have hws : mrk (nms fs) (fun k => k == q) (wo (nms fs) (i + 1)) = mgo (nms fs) (fun k => k == q) (mrk (nms fs) (fun k => k == q) (wo (nms fs) i)) k := by rw [wo_some hk, mrk_snoc]
        have hmk' : (mrk (nms fs) (fun k => k == q) (wo (nms fs) i)).contains k = false := by
          have h1 := (marks_one (unhide HF).one [q] (fun k => k == q) (fun k _ => by rw [Bool.eq_iff_iff]; simp) i).1
          cases e : (mrk (nms fs) (fun k => k == q) (wo (nms fs) i)).contains k with
          | false => rfl
          | true => exact (k2 (h1 k (by simpa using e))).elim
        generalize mrk (nms fs) (fun k => k == q) (wo (nms fs) i) = M at *
        obtain ⟨gn, on, hun, hgn, hcls⟩ := (unhide HNA2) (by intro e; rw [e] at hxl; cases hxl)
        subst hun
        obtain ⟨vx, hvx, xv, xc, rfl, hxv⟩ := hcls k l hxl
        have HCX : Hid (∀ W, Below W2.heap.size W2 W → W.cell? ⟨gn, on + k, none⟩ = some (.slice xv l.length xc)) := hide (fun W hb => (hb.cell (p := ⟨gn, on + k, none⟩) hgn).trans hvx)
        have HIX : Hid (l ≠ [] → ∃ b o, xv = some ⟨b, o, none⟩ ∧ ∀ W, Below W2.heap.size W2 W → ∀ (t y : Nat), l[t]? = some y → W.cell? ⟨b, o + t, none⟩ = some (.int .i64 (y : Int))) := hide (fun h0 => by
          obtain ⟨b, o, e, hb, hI⟩ := hxv h0
          exact ⟨b, o, e, fun W hw t y ht => (hI.below hw hb) t _ (nats_at ht)⟩)
        have hpw : p < w.heap.size := ((unhide HU).at hx).2.1
        have HPN : Hid (∀ W, Below w.heap.size w W → W.cell? ⟨p, po + k * 15, none⟩ = some (.string f.nm)) := hide (fun W hb => (((unhide HU).bel hb).at15 hx).2.1)
        obtain ⟨rfl, n0, _⟩ := ((unhide HU).bel (unhide HWW)).at15 hx
        have HNMK : Hid (nmOf fs k = f.nm) := hide (by unfold nmOf; rw [getD_at hx])
        have kk1 : (k : Int) < (n : Int) := by omega
        have kk0 : (0 : Int) ≤ (k : Int) := Int.natCast_nonneg _
        have hnm' : (f.nm.toList == s.toList) = (k == q) := hnm
        have HV1 := hide ((unhide HV).set k (.bool (k == q)))
        rw [m1_set k1 hmk'] at HV1
        have fz : ∀ z, W5.frozen? ⟨W2.heap.size, z, none⟩ = false := (unhide HV).frozen
        have dk := (unhide HV).cell (bl_at (o := M) k1)
        have HGD := hide hgd
        have HWS := hide hws
        have HMK := hide hmk'
        have HK2 := hide k2
        have HK3 := hide k3
        clear hk k2 k3 hoi e8 h8 hio hx hnm hxl hgd hws hmk' hcls hvx hxv
        generalize hsq : (k == q) = sq at *
        have HSQ := hide hsq
        clear hsq
        have HO1 := hide (own_kept (unhide HOW) (w' := W5.setCell ⟨W2.heap.size, k, none⟩ (.bool sq)) (fun g hg => by have h1 := (own_ge (unhide HOW) g hg).1; have h3 : g ≠ W2.heap.size := (by omega); exact Below.heap_setCell _ _ _ _ h3))
        have HBW1 := hide (Below.setCell (unhide HBW) (p := ⟨W2.heap.size, k, none⟩) (Nat.le_refl _) (.bool sq))
        have HS1 : Hid (W2.heap.size + 1 ≤ (W5.setCell ⟨W2.heap.size, k, none⟩ (.bool sq)).heap.size) := hide (by simpa [World.setCell] using hsz)
        have HWW1 := hide (bc (unhide HB2) (unhide HBW1))
        have HKN := hide k1
        go_wp2_with fail
        generalize W5.setCell ⟨W2.heap.size, k, none⟩ (.bool sq) = W6 at *
        clear b0 n0 dk fz hnm'
        have hcx := unhide HCX _ (unhide HBW1)
        go_loopw [14] (fun z W => W.ownsRow (W2.heap.size + 1) 9 1 (.slice uh M.length ch) M.length (strs (M.map (nmOf fs))) ∧ W2.heap.size + 1 ≤ W.heap.size ∧ Below W2.heap.size W2 W ∧ ((z = .int .i64 0 ∧ W = W6) ∨ (z = .int .i64 1 ∧ l.length = 1 ∧ vb W W2.heap.size 4 (bl n (mgo (nms fs) (fun k => k == q) M k))))) (fun z _ => 1 - (intOf z).toNat)
        case atStart => exact ⟨unhide HO1, unhide HS1, unhide HBW1, .inl ⟨rfl, rfl⟩⟩
        case round =>
          obtain ⟨hoq, hsq9, hbq, ⟨rfl, hww⟩ | ⟨rfl, hl1, hvq⟩⟩ := hrel
          · subst hww
            rename World => W7
            clear hoq hsq9 hbq
            match l, hll with
            | [], _ =>
              have hv2 := unhide HV1
              have e9 := mgo_nil (nm := nms fs) (sd := fun k => k == q) (M := M) (unhide HGD)
              simp only [unhide HSQ] at e9
              rw [e9] at hv2
              have HVQ := hide hv2
              have HOQ := hide (unhide HO1)
              have HSQ9 := hide (unhide HS1)
              have HBQ := hide (unhide HBW1)
              have HNQ := hide (unhide HPN _ (unhide HWW1))
              clear hv2 e9
              generalize hgb : (mgo (nms fs) (fun k => k == q) M k).contains k = gb
              have HCK : Hid ((mgo (nms fs) (fun k => k == q) M k).contains k = gb) := hide hgb
              have dg := (unhide HVQ).cell (bl_at (o := mgo (nms fs) (fun k => k == q) M k) k1)
              rw [unhide HCK] at dg
              have n1 : W7.cell? ⟨p, po + k * 15, none⟩ = some (.string f.nm) := unhide HNQ
              clear hgb
              cases gb
              · have hmM : mgo (nms fs) (fun k => k == q) M k = M := by
                  have h9 := unhide HCK
                  unfold mgo at h9 ⊢
                  split
                  · rename_i hh
                    rw [if_pos hh, contains_snoc] at h9
                    simp at h9
                  · rfl
                have HMM := hide hmM
                clear hmM
                go_wp2_with fail
                go_roundw
                case rel =>
                  refine ⟨i + 1, by simp, h, ?_, ?_, unhide HSQ9, unhide HBQ⟩
                  · rw [unhide HWS, unhide HMM]
                    exact unhide HOQ
                  · rw [unhide HWS]
                    exact unhide HVQ
                case measure => simp only [intOf]; omega
              · have hmM : mgo (nms fs) (fun k => k == q) M k = M ++ [k] := by
                  have h9 := unhide HCK
                  unfold mgo at h9 ⊢
                  split
                  · rfl
                  · rename_i hh
                    rw [if_neg hh, unhide HMK] at h9
                    cases h9
                have HMM := hide hmM
                clear hmM
                go_wp2_with (at_builtin; refine unhide ?_)
                refine hide ?_
                refine wpList_append_own _ rfl _ _ 24 rfl (W2.heap.size + 1) 9 iT _ 1 16 Try.underlying24 ht hx0 hx1 hx2 rfl (by decide) _ M.length _ rfl ((unhide HOQ).alloc _) _ 1 1 (strs [f.nm]) rfl rfl (by first | exact news_cells _ _ rfl | exact news_cells _ _ (by simp)) (by intro u hu; simp only [strs, List.map_cons, List.map_nil, List.mem_singleton] at hu; subst hu; rfl) (by unfold maxLen; omega) (by omega) (Nat.le_trans (unhide HSQ9) (by simp)) ?_
                intro v' w1 hown' hgrow _
                have hbx : Below (W2.heap.size + 1) W7 w1 := ((Below.refl _ _).alloc (unhide HSQ9) (.cells (strs [f.nm]).toArray 9)).grown hgrow (Nat.le_trans (unhide HSQ9) (by simp)) (fun g hg => (own_ge (unhide HOQ) g hg).1)
                have hown2 : w1.ownsRow (W2.heap.size + 1) 9 1 v' (M ++ [k]).length (strs ((M ++ [k]).map (nmOf fs))) := by
                  rw [strs_app, unhide HNMK, List.length_append]
                  exact hown'
                have HO2 := hide hown2
                have HBX := hide hbx
                clear hown' hgrow hown2 hbx
                go_wp2_with fail
                go_roundw
                case rel =>
                  refine ⟨i + 1, by simp, h, ?_, ?_, Nat.le_trans (unhide HSQ9) (unhide HBX).size, (unhide HBQ).trans ((unhide HBX).mono (by omega))⟩
                  · rw [unhide HWS, unhide HMM]
                    exact unhide HO2
                  · rw [unhide HWS]
                    exact (unhide HVQ).below (unhide HBX) (by omega)
                case measure => simp only [intOf]; omega

            | [y], _ =>
              have hyk : y ≠ k := fun e => unhide HK2 (by have := unhide HK3 y (by simp); rw [e] at this; exact this)
              have hyn : y < n := by have := wo_lt (nms fs) i y (unhide HK3 y (by simp)); rw [nms_len, unhide HL] at this; exact this
              obtain ⟨bx, qx, rfl, hcell⟩ := unhide HIX (by simp)
              have r2 := hcell _ (unhide HBW1) 0 y rfl
              have y1 : (y : Int) < (n : Int) := by omega
              have y0 : (0 : Int) ≤ (y : Int) := Int.natCast_nonneg _
              have dk := (unhide HV1).cell (bl_at (unhide HKN))
              have dy := (unhide HV1).cell (bl_at hyn)
              have fz : ∀ z, W7.frozen? ⟨W2.heap.size, z, none⟩ = false := (unhide HV1).frozen
              have HV2 := hide ((unhide HV1).set k (.bool ((m1 M sq k).contains k || (m1 M sq k).contains y)))
              rw [lup_one (unhide HKN)] at HV2
              have e9 := mgo_bl (n := n) (nm := nms fs) (sd := fun k => k == q) (unhide HMK) hyk (unhide HGD)
              simp only [unhide HSQ] at e9
              rw [e9] at HV2
              have HO3 := fun x => hide (own_kept (unhide HO1) (w' := W7.setCell ⟨W2.heap.size, k, none⟩ (.bool x)) (fun g hg => by have h1 := (own_ge (unhide HO1) g hg).1; have h3 : g ≠ W2.heap.size := (by omega); exact Below.heap_setCell _ _ _ _ h3))
              simp only [List.length_singleton, Nat.add_zero] at hcx r2
              clear hcell e9
              generalize (m1 M sq k).contains k = bk at *
              generalize (m1 M sq k).contains y = by' at *
              cases bk
              · go_wp2_with fail
                go_roundw
                case rel => exact ⟨unhide (HO3 _), by simpa [World.setCell] using unhide HS1, Below.setCell (unhide HBW1) (Nat.le_refl _) _, .inr ⟨rfl, rfl, unhide HV2⟩⟩
                case measure => simp [intOf]
              · go_wp2_with fail
                go_roundw
                case rel => exact ⟨unhide (HO3 _), by simpa [World.setCell] using unhide HS1, Below.setCell (unhide HBW1) (Nat.le_refl _) _, .inr ⟨rfl, rfl, unhide HV2⟩⟩
                case measure => simp [intOf]
          · rename World => W7
            have HVQ := hide hvq
            have HOQ := hide hoq
            have HSQ9 := hide hsq9
            have HBQ := hide hbq
            have HNQ := hide (unhide HPN _ (bc (unhide HB2) hbq))
            have hcx7 := unhide HCX _ hbq
            rw [hl1] at hcx7
            clear hvq hoq hsq9 hbq hcx
            generalize hgb : (mgo (nms fs) (fun k => k == q) M k).contains k = gb
            have HCK : Hid ((mgo (nms fs) (fun k => k == q) M k).contains k = gb) := hide hgb
            have dg := (unhide HVQ).cell (bl_at (o := mgo (nms fs) (fun k => k == q) M k) k1)
            rw [unhide HCK] at dg
            have n1 : W7.cell? ⟨p, po + k * 15, none⟩ = some (.string f.nm) := unhide HNQ
            clear hgb
            cases gb
            · have hmM : mgo (nms fs) (fun k => k == q) M k = M := by
                have h9 := unhide HCK
                unfold mgo at h9 ⊢
                split
                · rename_i hh
                  rw [if_pos hh, contains_snoc] at h9
                  simp at h9
                · rfl
              have HMM := hide hmM
              clear hmM
              go_wp2_with fail
              go_roundw
              case rel =>
                refine ⟨i + 1, by simp, h, ?_, ?_, unhide HSQ9, unhide HBQ⟩
                · rw [unhide HWS, unhide HMM]
                  exact unhide HOQ
                · rw [unhide HWS]
                  exact unhide HVQ
              case measure => simp only [intOf]; omega
            · have hmM : mgo (nms fs) (fun k => k == q) M k = M ++ [k] := by
                have h9 := unhide HCK
                unfold mgo at h9 ⊢
                split
                · rfl
                · rename_i hh
                  rw [if_neg hh, unhide HMK] at h9
                  cases h9
              have HMM := hide hmM
              clear hmM
              go_wp2_with (at_builtin; refine unhide ?_)
              refine hide ?_
              refine wpList_append_own _ rfl _ _ 24 rfl (W2.heap.size + 1) 9 iT _ 1 16 Try.underlying24 ht hx0 hx1 hx2 rfl (by decide) _ M.length _ rfl ((unhide HOQ).alloc _) _ 1 1 (strs [f.nm]) rfl rfl (by first | exact news_cells _ _ rfl | exact news_cells _ _ (by simp)) (by intro u hu; simp only [strs, List.map_cons, List.map_nil, List.mem_singleton] at hu; subst hu; rfl) (by unfold maxLen; omega) (by omega) (Nat.le_trans (unhide HSQ9) (by simp)) ?_
              intro v' w1 hown' hgrow _
              have hbx : Below (W2.heap.size + 1) W7 w1 := ((Below.refl _ _).alloc (unhide HSQ9) (.cells (strs [f.nm]).toArray 9)).grown hgrow (Nat.le_trans (unhide HSQ9) (by simp)) (fun g hg => (own_ge (unhide HOQ) g hg).1)
              have hown2 : w1.ownsRow (W2.heap.size + 1) 9 1 v' (M ++ [k]).length (strs ((M ++ [k]).map (nmOf fs))) := by
                rw [strs_app, unhide HNMK, List.length_append]
                exact hown'
              have HO2 := hide hown2
              have HBX := hide hbx
              clear hown' hgrow hown2 hbx
              go_wp2_with fail
              go_roundw
              case rel =>
                refine ⟨i + 1, by simp, h, ?_, ?_, Nat.le_trans (unhide HSQ9) (unhide HBX).size, (unhide HBQ).trans ((unhide HBX).mono (by omega))⟩
                · rw [unhide HWS, unhide HMM]
                  exact unhide HO2
                · rw [unhide HWS]
                  exact (unhide HVQ).below (unhide HBX) (by omega)
              case measure => simp only [intOf]; omega

      · have i1 : ¬ (i : Int) < (n : Int) := by omega
        have iz : decide ((i : Int) < (n : Int)) = false := decide_eq_false i1
        have hin' : n = i := by omega
        subst hin'
        have hord : wo (nms fs) n = ord (nms fs) := by unfold ord; rw [nms_len, unhide HL]
        rw [hord] at HOW
        rw [hord]
        have HS2 : Hid (SRow W5 w.heap.size (.slice uh (mrk (nms fs) (fun k => k == q) (ord (nms fs))).length ch) ((mrk (nms fs) (fun k => k == q) (ord (nms fs))).map (nmOf fs))) := hide (by
          unfold SRow
          rw [List.length_map]
          exact own_mono (unhide HOW) (by have := (unhide HB2).size; omega))
        go_wp2_with fail
        refine bodyPost_ret (v := .tuple #[.slice uh (mrk (nms fs) (fun k => k == q) (ord (nms fs))).length ch, .int .i64 0]) (by simp [results, Try.results14, go_sem]; done) rfl ?_
        exact ⟨⟨_, _, _, rfl, unhide HD, unhide HS2⟩, unhide HWW⟩
end Go.Proofs.Ytbenhicdhiichaa
