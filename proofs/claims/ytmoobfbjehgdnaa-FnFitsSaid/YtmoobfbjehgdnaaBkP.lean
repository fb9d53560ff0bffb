/-
  The program's reason.
-/
import Derived.Test.YtmoobfbjehgdnaaBkMap
import Derived.Deep.RegionHeld3
namespace Go.Proofs.Ytmoobfbjehgdnaa
open Go.ChangeShapes Go.WideShapes Go.ChangeAt Go.RowKit Go.Maps
set_option linter.unusedVariables false
set_option linter.unusedSimpArgs false

set_option maxHeartbeats 8000000 in
set_option maxRecDepth 100000 in
theorem reason_any (u v : Option Addr) (p po n cu q qo m cv : Nat) (H S : List Int) (lo hi : Int) (w : World) (hl : H.length = n) (hm : S.length = m) (hu : Its w u p po H) (hv : Its w v q qo S) (hC : mtC H S lo hi = 0) :
    Calls Try.prog 24 #[.agg #[.slice u n cu, .slice v m cv, .int .i64 lo, .int .i64 hi]] w fun e w' => (∃ va vs, e = .returned (.tuple #[va, vs]) ∧ Row w' w.heap.size 3 1 va (those (TH H S lo hi) n).length (those (TH H S lo hi) n) ∧ Row w' w.heap.size 3 1 vs (those (TS H S lo hi) m).length (those (TS H S lo hi) m) ∧ (∀ b, va.ownBlock = some b → vs.ownBlock ≠ some b)) ∧ Below w.heap.size w w' := by
  obtain ⟨iI, hj1, hz0, hz1, hz2⟩ := info_parts int_info3
  obtain ⟨hn, hm2, hH, hS, hlo, hlh, hhi⟩ := mtC_ok hC
  rw [hl] at hn
  rw [hm] at hm2
  have HM := hide (fun (W : World) (hW : Below w.heap.size w W) => paired_any u v p po n cu q qo m cv H S lo hi W hl hm (hu.bel hW) (hv.bel hW) hC)
  rw [show pgo H S lo hi (ordL H n) (ordL S m) = fin H S lo hi by unfold fin; rw [hl, hm]] at HM
  have hmk2 := fun W => make_bools (P := Try.prog) 29 4 m Try.underlying29 bool_info (by omega) W
  have hmm := @run_makeMap Try.prog
  have HPB : Hid (∀ (i : Nat) (a b : Int), (fin H S lo hi).ps[i]? = some (a, b) → ∃ an bn : Nat, a = (an : Int) ∧ b = (bn : Int) ∧ an < n ∧ bn < m) := hide (fun i a b h => by
    have := pair_fits (List.mem_of_getElem? h)
    exact ⟨a.toNat, b.toNat, by omega, by omega, by omega, by omega⟩)
  have HPL : Hid ((fin H S lo hi).ps.length ≤ 200) := hide (by have := (pgo_len H S lo hi (ordL H H.length) (ordL S S.length)).2; rw [ordL_len] at this; unfold fin; omega)
  have HR0 : Hid (Run H S lo hi (fin H S lo hi).al [] (List.replicate m false)) := hide (by rw [← hm]; exact Run.none)
  have m0 : (0 : Int) ≤ (m : Int) := Int.natCast_nonneg _
  generalize hY : (List.replicate m false).map Value.bool = Y at hmk2
  have HY := hide hY
  have HL := hide hl
  have HLM := hide hm
  have HU := hide hu
  have HV := hide hv
  have HHB := hide hH
  have HSB := hide hS
  clear hu hv hH hS hY hC hl hm
  generalize hps : (fin H S lo hi).ps = ps at *
  have HPS := hide hps
  clear hps
  go_enter Try.func24, Try.ntmps24
  go_wp2_with fail
  refine (unhide HM _ (ba (Below.refl _ _) _)).mono ?_
  rintro e W1 ⟨⟨vp, va, rfl, hpa⟩, hb1⟩
  unfold PAl at hpa
  rw [show (fin H S lo hi).ps = ps from unhide HPS] at hpa
  generalize (fin H S lo hi).al = al at *
  obtain ⟨hrp, hra⟩ := hpa
  have HRP := hide hrp
  have HRA := hide hra
  have HMI : Hid (vblk W1 w.heap.size 46 [.slice u n cu, .slice v m cv, .int .i64 lo, .int .i64 hi]) := hide (vblk.bel (vblk_new w 46 [.slice u n cu, .slice v m cv, .int .i64 lo, .int .i64 hi]) hb1)
  have HB1 : Hid (Below w.heap.size w W1) := hide (bc (ba (Below.refl _ _) _) hb1)
  have hs1 := hb1.size
  have hpl := unhide HPL
  obtain ⟨pu, pc, hvp, hpf⟩ := hrp.form
  subst hvp
  have HPF := hide hpf
  clear hrp hra hb1 hpf HM
  go_wp2_with fail
  go_loopw [21] (fun z W => ∃ k : Nat, k ≤ ps.length ∧ z = .int .i64 (k : Int) ∧ W.ownsMap Try.prog 3 (plainElem Try.prog 3) W1.heap.size k (Mp ps k) ∧ Below W1.heap.size W1 W) (fun z _ => ps.length - (intOf z).toNat)
  case atStart => exact ⟨0, Nat.zero_le _, rfl, World.ownsMap_made _ _ _ _, (Below.refl _ _).alloc (Nat.le_refl _) _⟩
  case round =>
    obtain ⟨k, hk, rfl, hown, hnx⟩ := hrel
    by_cases h : k < ps.length
    · have i1 : (k : Int) < (ps.length : Int) := by omega
      have i0 : (0 : Int) ≤ (k : Int) := Int.natCast_nonneg _
      have iz : decide ((k : Int) < (ps.length : Int)) = true := decide_eq_true i1
      obtain ⟨⟨a, b⟩, hab⟩ : ∃ x, ps[k]? = some x := ⟨_, List.getElem?_eq_getElem h⟩
      obtain ⟨an, bn, rfl, rfl, han, hbn⟩ := unhide HPB k a b hab
      obtain ⟨gp, rfl, hgp1, hgp2, hint⟩ := unhide HPF (by omega)
      obtain ⟨f1, f2⟩ := flat2_at hab
      have k0 : wr.cell? ⟨gp, k * 2, none⟩ = some (.int .i64 (an : Int)) := keep1 hnx (by have := hint _ _ f1; simpa using this)
      have k1 : wr.cell? ⟨gp, k * 2 + 1, none⟩ = some (.int .i64 (bn : Int)) := keep1 hnx (by have := hint _ _ f2; simpa using this)
      have HX := hide hab
      have hkey : keyOf Try.prog 3 (.int .i64 (bn : Int)) = some (.int .i64 (bn : Int)) := keyOf_int_mk Try.underlying3 (by simp [Lit.wf, IntKind.min, IntKind.max, IntKind.bits, IntKind.signed]; omega)
      have hval : plainElem (H := Unit) Try.prog 3 (.int .i64 (an : Int)) = some (.lit (.int .i64 (an : Int)), []) := plainElem_int Try.underlying3 (by simp [Lit.wf, IntKind.min, IntKind.max, IntKind.bits, IntKind.signed]; omega)
      have hownA : (wr.alloc (.cells #[.int .i64 (an : Int), .int .i64 (bn : Int)] 31)).ownsMap Try.prog 3 (plainElem Try.prog 3) W1.heap.size k (Mp ps k) := omap_keep hown (by
        have := hown.lt
        show (wr.heap.push _)[W1.heap.size]? = _
        rw [Array.getElem?_push, if_neg (by omega)])
      have HNX := hide hnx
      have HOWN := hide hown
      clear hab hnx hown hint f1 f2
      go_wp2_with (first
        | (at_mapUpdate; refine wpList_mapUpdate_own _ rfl _ _ _ 63 rfl 3 3 lawI Try.underlying63 (plainElem (H := Unit) Try.prog 3) W1.heap.size k _ rfl hownA (by unfold maxLen; omega) _ _ _ rfl rfl hkey _ [] hval ?_; intro w1 hown1 hgrow1)
        | go_in)
      have HO1 := hide hown1
      have HG1 := hide hgrow1
      clear hown1 hgrow1 hownA
      go_wp2_with fail
      go_roundw
      case rel =>
        refine ⟨k + 1, h, by simp, ?_, ?_⟩
        · have e : Mp ps (k + 1) = (Mp ps k).put (.int .i64 (bn : Int)) (.lit (.int .i64 (an : Int))) := by
            show (Mp ps k).put (.int .i64 ((ps[k]?).getD (0, 0)).2) (.lit (.int .i64 ((ps[k]?).getD (0, 0)).1)) = _
            rw [unhide HX, Option.getD_some]
          rw [e]
          exact unhide HO1
        · exact ((unhide HNX).alloc (unhide HNX).size _).grown (unhide HG1) (Nat.le_trans (unhide HNX).size (by simp)) (fun j hj => by cases hj; exact Nat.le_refl _)
      case measure => simp only [intOf]; omega
    · have i1 : ¬ (k : Int) < (ps.length : Int) := by omega
      have iz : decide ((k : Int) < (ps.length : Int)) = false := decide_eq_false i1
      have en : k = ps.length := by omega
      subst en
      have HNX := hide hnx
      have HOWN := hide hown
      clear hnx hown
      have HMI2 : Hid (vblk wr w.heap.size 46 [.slice u n cu, .slice v m cv, .int .i64 lo, .int .i64 hi]) := hide (vblk.bel (unhide HMI) (unhide HNX))
      have HRA2 := hide ((unhide HRA).below (unhide HNX))
      have HBW : Hid (Below w.heap.size w wr) := hide (bc (unhide HB1) (unhide HNX))
      have x1 : wr.cell? ⟨w.heap.size, 1, none⟩ = some (.slice v m cv) := vblk.cell (unhide HMI2) rfl
      have hsw := (unhide HNX).size
      have hgm := (unhide HOWN).lt
      have hs1' : w.heap.size + 1 ≤ W1.heap.size := by have := hs1; simpa using this
      have hra0 : ∀ b, va.ownBlock = some b → w.heap.size + 1 ≤ b ∧ b < W1.heap.size := fun b hb => by
        have := World.ownsRow.lt (unhide HRA) b hb
        simpa using this
      have HRA0 := hide hra0
      clear HMI HRA HRP HPF hra0
      go_wp2_with fail
      have HKP : Hid (Kp w w.heap.size W1.heap.size wr.heap.size [.slice u n cu, .slice v m cv, .int .i64 lo, .int .i64 hi] (Mp ps ps.length) ps.length (w.heap.size + 1) (wr.heap.size + 1) va (.slice none 0 0) al [] (List.replicate m false) (wr.alloc (.cells Y.toArray 4))) := hide {
        mine := vblk.bel (unhide HMI2) (ba (Below.refl _ _) _)
        marks := by unfold bblk; rw [unhide HY]; exact vblk_new wr 4 Y
        map := omap_keep (unhide HOWN) (by show (wr.heap.push _)[W1.heap.size]? = _; rw [Array.getElem?_push, if_neg (by omega)])
        ra := by have := (unhide HRA2).below (ba (Below.refl wr.heap.size wr) (.cells Y.toArray 4)); simpa using this
        rs := ⟨by simp, .inl ⟨rfl, rfl⟩⟩
        ne := fun b hb => by have := unhide HRA0 b hb; exact ⟨by simp [Value.ownBlock], by omega, by omega⟩
        bel := ba (unhide HBW) _ }
      obtain ⟨gm, hgm'⟩ : ∃ gm, W1.heap.size = gm := ⟨_, rfl⟩
      obtain ⟨gt', hgt'⟩ : ∃ gt', wr.heap.size = gt' := ⟨_, rfl⟩
      rw [hgm', hgt'] at HKP
      simp only [hgm', hgt']
      have hd1 : w.heap.size < gm := by omega
      have hd2 : gm < gt' := by omega
      clear hmk2 HY HRA2 HOWN HNX HMI2 HB1 HBW HRA0 x1 hmm
      generalize wr.alloc (.cells Y.toArray 4) = Wq at *
      have HLN : Hid (∀ {Hs Ss : List Int} {T : List Bool}, Run H S lo hi Hs Ss T → Hs.length ≤ n ∧ Ss.length ≤ m ∧ T.length = m ∧ (∀ a ∈ Hs, ∃ an : Nat, a = (an : Int) ∧ an < n)) := hide (fun hr => by
        have h1 := hr.len
        rw [unhide HL, unhide HLM] at h1
        refine ⟨h1.1, h1.2, hr.lt.trans (unhide HLM), fun a ha => ?_⟩
        have := (hr.th a ha).in
        rw [unhide HL] at this
        exact ⟨a.toNat, by omega, by omega⟩)
      have HNX : Hid (∀ {Hs Ss : List Int} {T : List Bool}, Run H S lo hi Hs Ss T → ∀ {a : Int}, a ∈ Hs → ∀ {k : Nat}, k < m → bt T k = false → fitB H S lo hi a (k : Int) = true → Run H S lo hi (Hs ++ [holeOf ps (k : Int)]) (Ss ++ [(k : Int)]) (T.set k true) ∧ (Mp ps ps.length).atKey (.int .i64 (k : Int)) (.lit (.int .i64 0)) = .lit (.int .i64 (holeOf ps (k : Int)))) := hide (fun hr a ha k hk hT hf => by
        have h1 := hr.next ha (k := k) (by rw [unhide HLM]; exact hk) hT hf
        have h2 := (h1.ts (k : Int) (by simp)).pair.1
        have e := unhide HPS
        rw [e] at h1 h2
        refine ⟨h1, ?_⟩
        obtain ⟨j, hj⟩ := List.getElem?_of_mem h2
        exact Mp_at (fun a a' s x y => pair_shaft (H := H) (S := S) (lo := lo) (hi := hi) (by rw [e]; exact x) (by rw [e]; exact y)) ps.length (Nat.le_refl _) j (List.getElem?_eq_some_iff.1 hj).1 _ _ hj)
      have HDN : Hid (∀ {Hs Ss : List Int} {T : List Bool}, Run H S lo hi Hs Ss T → (∀ a ∈ Hs, ∀ k, k < m → fitB H S lo hi a (k : Int) = true → bt T k = true) → srt Hs = those (TH H S lo hi) n ∧ srt Ss = those (TS H S lo hi) m) := hide (fun hr hd => by
        have := hr.done (by rw [unhide HLM]; exact hd)
        rw [unhide HL, unhide HLM] at this
        exact this)
      go_loopw [5, 10, 11] (fun va vs z W => ∃ (j : Nat) (Hs Ss : List Int) (T : List Bool), z = .int .i64 (j : Int) ∧ j ≤ Hs.length ∧ Run H S lo hi Hs Ss T ∧ Kp w w.heap.size gm gt' [.slice u n cu, .slice v m cv, .int .i64 lo, .int .i64 hi] (Mp ps ps.length) ps.length (w.heap.size + 1) (gt' + 1) va vs Hs Ss T W ∧ (∀ a ∈ Hs.take j, ∀ k, k < m → fitB H S lo hi a (k : Int) = true → bt T k = true)) (fun _ _ z _ => n - (intOf z).toNat)
      case atStart => exact ⟨0, al, [], _, rfl, Nat.zero_le _, unhide HR0, unhide HKP, by simp⟩
      case round =>
        obtain ⟨j, Hs, Ss, T, rfl, hj, hrun, hkp, hdn⟩ := hrel
        have HRU := hide hrun
        have HK := hide hkp
        have HD := hide hdn
        obtain ⟨hln, hsn, htn, hin⟩ := unhide HLN hrun
        have HIN := hide hin
        have hra := hkp.ra
        have hrs := hkp.rs
        clear hrun hkp hdn HR0 HKP hin
        obtain ⟨pa, ca, hva, hfa⟩ := hra.form
        obtain ⟨pb, cb, hvs, hfb⟩ := hrs.form
        subst hva
        subst hvs
        have HFA := hide hfa
        have hsz := (unhide HK).bel.size
        have hgl := vblk.lt (unhide HK).marks
        have hRA := hide hra
        have hRS := hide hrs
        clear hra hrs hfa hfb
        by_cases h : j < Hs.length
        · have i1 : (j : Int) < (Hs.length : Int) := by omega
          have i0 : (0 : Int) ≤ (j : Int) := Int.natCast_nonneg _
          have iz : decide ((j : Int) < (Hs.length : Int)) = true := decide_eq_true i1
          obtain ⟨a, haj⟩ : ∃ a, Hs[j]? = some a := ⟨_, List.getElem?_eq_getElem h⟩
          obtain ⟨an, rfl, han⟩ := unhide HIN a (List.mem_of_getElem? haj)
          have HAJ := hide haj
          have x1 : wr.cell? ⟨w.heap.size, 1, none⟩ = some (.slice v m cv) := vblk.cell (unhide HK).mine rfl
          clear haj
          go_wp2_with fail
          go_loopw [5, 10, 44] (fun va vs z W => ∃ (k : Nat) (Hs Ss : List Int) (T : List Bool), z = .int .i64 (k : Int) ∧ k ≤ m ∧ Run H S lo hi Hs Ss T ∧ Kp w w.heap.size gm gt' [.slice u n cu, .slice v m cv, .int .i64 lo, .int .i64 hi] (Mp ps ps.length) ps.length (w.heap.size + 1) (gt' + 1) va vs Hs Ss T W ∧ Hs[j]? = some (an : Int) ∧ (∀ a ∈ Hs.take j, ∀ k, k < m → fitB H S lo hi a (k : Int) = true → bt T k = true) ∧ (∀ x, x < k → fitB H S lo hi (an : Int) (x : Int) = true → bt T x = true)) (fun _ _ z _ => m - (intOf z).toNat)
          case atStart => exact ⟨0, Hs, Ss, T, rfl, Nat.zero_le _, unhide HRU, unhide HK, unhide HAJ, unhide HD, fun x hx => absurd hx (Nat.not_lt_zero _)⟩
          case round =>
            clear x1 HRU HK HD HIN HAJ HFA hRA hRS hsz hgl hln hsn htn i1 iz h hj
            obtain ⟨k, Hs2, Ss2, T2, rfl, hk, hrun, hkp, haj, hdn, hdk⟩ := hrel
            have HRU := hide hrun
            have HK := hide hkp
            have HD := hide hdn
            have HDK := hide hdk
            have HAJ := hide haj
            obtain ⟨hln, hsn, htn, hin⟩ := unhide HLN hrun
            have hra := hkp.ra
            have hrs := hkp.rs
            obtain ⟨pa, ca, hva, hfa⟩ := hra.form
            obtain ⟨pb, cb, hvs, hfb⟩ := hrs.form
            subst hva
            subst hvs
            have hsz := hkp.bel.size
            have hgl := vblk.lt hkp.marks
            have hjl : j < Hs2.length := (List.getElem?_eq_some_iff.1 haj).1
            by_cases h2 : k < m
            · have k1 : (k : Int) < (m : Int) := by omega
              have k0 : (0 : Int) ≤ (k : Int) := Int.natCast_nonneg _
              have kz : decide ((k : Int) < (m : Int)) = true := decide_eq_true k1
              have j1 : (j : Int) < (Hs2.length : Int) := by omega
              obtain ⟨ga, rfl, hga1, hga2, hint⟩ := hfa (by omega)
              have ch : wr.cell? ⟨ga, j, none⟩ = some (.int .i64 (an : Int)) := by have := hint _ _ haj; simpa using this
              have x0 : wr.cell? ⟨w.heap.size, 0, none⟩ = some (.slice u n cu) := vblk.cell hkp.mine rfl
              have x1 : wr.cell? ⟨w.heap.size, 1, none⟩ = some (.slice v m cv) := vblk.cell hkp.mine rfl
              have x2 : wr.cell? ⟨w.heap.size, 2, none⟩ = some (.int .i64 lo) := vblk.cell hkp.mine rfl
              have x3 : wr.cell? ⟨w.heap.size, 3, none⟩ = some (.int .i64 hi) := vblk.cell hkp.mine rfl
              have ct : wr.cell? ⟨gt', k, none⟩ = some (.bool (bt T2 k)) := hkp.marks.cell (bt_some (by omega))
              have fz : ∀ o, wr.frozen? ⟨gt', o, none⟩ = false := vblk.frozen hkp.marks
              clear hrun hkp hdn hdk haj hra hrs hfa hfb hint hin
              generalize hub : bt T2 k = ub at *
              have HUB := hide hub
              clear hub
              cases ub
              · have hxH := gtk_some (a := H) (i := an) (by rw [unhide HL]; exact han)
                have hxS := gtk_some (a := S) (i := k) (by rw [unhide HLM]; exact h2)
                obtain ⟨rfl, hpl', chh⟩ := ((unhide HU).bel (unhide HK).bel).at hxH
                obtain ⟨rfl, hql', css⟩ := ((unhide HV).bel (unhide HK).bel).at hxS
                have HFT : Hid (∀ W, W.cell? ⟨p, po + an, none⟩ = some (.int .i64 (gt H an)) → W.cell? ⟨q, qo + k, none⟩ = some (.int .i64 (gt S k)) → Calls Try.prog 36 #[.agg #[.slice (some ⟨p, po, none⟩) n cu, .slice (some ⟨q, qo, none⟩) m cv, .int .i64 lo, .int .i64 hi], .int .i64 (an : Int), .int .i64 (k : Int)] W fun e w' => e = .returned (.bool (fitB H S lo hi (an : Int) (k : Int))) ∧ Below W.heap.size W w') := hide (fun W c1 c2 => by
                  have := fit_any p po n cu q qo m cv an k lo hi _ _ W han h2 c1 c2 (unhide HHB _ (List.mem_of_getElem? hxH)) (unhide HSB _ (List.mem_of_getElem? hxS))
                  rw [btw_fit] at this
                  exact this)
                clear hxH hxS
                generalize gt H an = xh at *
                generalize gt S k = xs at *
                generalize hfb : fitB H S lo hi (an : Int) (k : Int) = fb at *
                have HFB := hide hfb
                clear hfb
                go_wp2_with fail
                cases fb
                all_goals
                  go_region_held3 (fun wx => wx.cell? ⟨ga, j, none⟩ = some (.int .i64 (an : Int)) ∧ wx.cell? ⟨gt', k, none⟩ = some (.bool false) ∧ wx.cell? ⟨w.heap.size, 0, none⟩ = some (.slice (some ⟨p, po, none⟩) n cu) ∧ wx.cell? ⟨w.heap.size, 1, none⟩ = some (.slice (some ⟨q, qo, none⟩) m cv) ∧ wx.cell? ⟨w.heap.size, 2, none⟩ = some (.int .i64 lo) ∧ wx.cell? ⟨w.heap.size, 3, none⟩ = some (.int .i64 hi) ∧ wx.cell? ⟨p, po + an, none⟩ = some (.int .i64 xh) ∧ wx.cell? ⟨q, qo + k, none⟩ = some (.int .i64 xs))
                    (simp (maxDischargeDepth := 12) [go_sem, le1, lt1, *])
                    (first
                    | (go_at_call 36; refine (unhide HFT _ (by simp [go_sem, *]) (by simp [go_sem, *])).mono ?_; rintro e w6 ⟨rfl, hb6⟩; have HB6 := hide hb6; have z0 := keep1 hb6 (b := ga) (o := _) (v := .int .i64 (an : Int)) ch; have z1 := keep1 hb6 (b := gt') (o := _) (v := .bool false) ct; have z2 := keep1 hb6 x0; have z3 := keep1 hb6 x1; have z4 := keep1 hb6 x2; have z5 := keep1 hb6 x3; have z6 := keep1 hb6 chh; have z7 := keep1 hb6 css; clear hb6))
                · have HB7 : Hid (Below wr.heap.size wr w6) := hide ⟨(unhide HB6).os, (unhide HB6).tape, (unhide HB6).output, (unhide HB6).size, (unhide HB6).block⟩
                  go_wp2_with fail
                  go_roundw
                  case rel =>
                    exact ⟨k + 1, Hs2, Ss2, T2, by simp, h2, unhide HRU, (unhide HK).low (unhide HB7), unhide HAJ, unhide HD, fun x hx hf => by
                      by_cases e : x = k
                      · rw [e, unhide HFB] at hf; cases hf
                      · exact unhide HDK x (by omega) hf⟩
                  case measure => simp only [intOf]; omega
                · have HB7 : Hid (Below wr.heap.size wr w6) := hide ⟨(unhide HB6).os, (unhide HB6).tape, (unhide HB6).output, (unhide HB6).size, (unhide HB6).block⟩
                  obtain ⟨hrn, hat⟩ := unhide HNX (unhide HRU) (List.mem_of_getElem? (unhide HAJ)) h2 (unhide HUB) (unhide HFB)
                  have HRN := hide hrn
                  have HAT := hide hat
                  have HKs := hide (((unhide HK).low (unhide HB7)).mark (by omega) (by omega) (by omega) (by omega) k)
                  have fz6 : ∀ o, w6.frozen? ⟨gt', o, none⟩ = false := vblk.frozen ((unhide HK).low (unhide HB7)).marks
                  have hs6 := (unhide HB7).size
                  clear hrn hat ch ct x0 x1 x2 x3 chh css fz
                  go_wp2_with (at_builtin; refine unhide ?_)
                  refine hide ?_
                  clear z0 z1 z2 z3 z4 z5 z6 z7 fz6
                  have hsw : w6.heap.size = (w6.setCell ⟨gt', k, none⟩ (.bool true)).heap.size := by simp [World.setCell]
                  generalize w6.setCell ⟨gt', k, none⟩ (.bool true) = Ws at *
                  have HKa := hide ((unhide HKs).low (ba (Below.refl Ws.heap.size Ws) (.cells #[.int .i64 (k : Int)] 3)))
                  refine wpList_append_new _ rfl _ _ 23 rfl (gt' + 1) 3 iI _ 1 8 Try.underlying23 hj1 hz0 hz1 hz2 rfl (by decide) _ Ss2.length (Ss2.map (Value.int .i64)) rfl (unhide HKa).rs _ 1 1 ([(k : Int)].map (Value.int .i64)) rfl rfl (by first | exact news_cells _ _ hsw | exact news_cells _ _ rfl | exact news_cells _ _ (by simp)) ints_one (by unfold maxLen; omega) (by omega) (by first | omega | (simp; omega)) ?_
                  intro v1 w1 hown1 hgr1 hvn1 hnb1
                  have hr1 : Row w1 (gt' + 1) 3 1 v1 (Ss2.length + 1) (Ss2 ++ [(k : Int)]) := by unfold Row; rw [List.map_append]; exact hown1
                  have HK1 := hide ((unhide HKa).tell (by omega) (by omega) (by omega) (by omega) hr1 hgr1 hnb1)
                  have hs7 := hgr1.size
                  clear hown1 hgr1 hvn1 hnb1 hr1 HKa HKs
                  obtain ⟨c, hrunc, hatc, hwc⟩ := (unhide HK1).map.lookup_int lawI Try.underlying63 Try.underlying3 (Try.zeroValue3 w1) (key := .int .i64 (k : Int)) (kl := .int .i64 (k : Int)) (keyOf_int_mk Try.underlying3 (by simp [Lit.wf, IntKind.min, IntKind.max, IntKind.bits, IntKind.signed]; omega))
                  rw [unhide HAT] at hatc
                  have hc : holeOf ps (k : Int) = c := by injection hatc with e1; injection e1
                  have HCC := hide hc
                  clear hatc hwc hc
                  go_wp2_with (at_builtin; refine unhide ?_)
                  refine hide ?_
                  have HKb := hide ((unhide HK1).low (ba (Below.refl w1.heap.size w1) (.cells #[.int .i64 c] 3)))
                  refine wpList_append_new _ rfl _ _ 23 rfl (w.heap.size + 1) 3 iI _ 1 8 Try.underlying23 hj1 hz0 hz1 hz2 rfl (by decide) _ Hs2.length (Hs2.map (Value.int .i64)) rfl (unhide HKb).ra _ 1 1 ([c].map (Value.int .i64)) rfl rfl (by first | exact news_cells _ _ rfl | exact news_cells _ _ (by simp)) ints_one (by unfold maxLen; omega) (by omega) (by have := (unhide HKb).bel.size; have := vblk.lt (unhide HKb).marks; omega) ?_
                  intro v2 w2 hown2 hgr2 hvn2 hnb2
                  have hr2 : Row w2 (w.heap.size + 1) 3 1 v2 (Hs2.length + 1) (Hs2 ++ [c]) := by unfold Row; rw [List.map_append]; exact hown2
                  have HK2 := hide ((unhide HKb).more (by omega) (by omega) hr2 hgr2 hnb2)
                  clear hown2 hgr2 hvn2 hnb2 hr2 HKb HK1 hrunc
                  go_wp2_with fail
                  go_roundw
                  case rel =>
                    rw [← unhide HCC] at HK2
                    have hmono : ∀ x, bt T2 x = true → bt (T2.set k true) x = true := fun x hx => by
                      rw [bt_set _ _ _ _ (by omega)]
                      split
                      · rfl
                      · exact hx
                    refine ⟨k + 1, _, _, _, by simp, h2, unhide HRN, unhide HK2, ?_, ?_, ?_⟩
                    · rw [List.getElem?_append_left hjl]; exact unhide HAJ
                    · rw [List.take_append_of_le_length (by omega)]
                      exact fun a ha x hx hf => hmono x (unhide HD a ha x hx hf)
                    · intro x hx hf
                      by_cases e : x = k
                      · rw [e, bt_set _ _ _ _ (by omega), if_pos rfl]
                      · exact hmono x (unhide HDK x (by omega) hf)
                  case measure => simp only [intOf]; omega
              · go_wp2_with fail
                go_quiet (fail)
                go_wp2_with fail
                go_roundw
                case rel =>
                  exact ⟨k + 1, Hs2, Ss2, T2, by simp, h2, unhide HRU, (unhide HK).low ⟨rfl, rfl, rfl, Nat.le_refl _, fun _ _ => rfl⟩, unhide HAJ, unhide HD, fun x hx hf => by
                    by_cases e : x = k
                    · rw [e]; exact unhide HUB
                    · exact unhide HDK x (by omega) hf⟩
                case measure => simp only [intOf]; omega
            · have kz : decide ((k : Int) < (m : Int)) = false := decide_eq_false (by omega)
              have ek : k = m := by omega
              subst ek
              clear hrun hkp hdn hdk haj hra hrs hfa hfb hin
              go_wp2_with fail
              go_roundw
              case rel =>
                refine ⟨j + 1, Hs2, Ss2, T2, by simp, hjl, unhide HRU, unhide HK, ?_⟩
                exact (take_succ_mem (unhide HAJ) (fun a => ∀ x, x < k → fitB H S lo hi a (x : Int) = true → bt T2 x = true)).2 ⟨unhide HD, unhide HDK⟩
              case measure => simp only [intOf]; omega
        · have iz : decide ((j : Int) < (Hs.length : Int)) = false := decide_eq_false (by omega)
          have ej : j = Hs.length := by omega
          subst ej
          have HE := hide (unhide HDN (unhide HRU) (by have := unhide HD; rw [List.take_length] at this; exact this))
          go_wp2_with fail
          refine (sortR_any (w.heap.size + 1) _ Hs wr (by omega) (by omega) (unhide hRA)).mono ?_
          rintro e W5 ⟨rfl, hr5, hb5, hs5, hk5⟩
          have HR5 := hide hr5
          have HS5 : Hid (Row W5 (gt' + 1) 3 1 (.slice pb Ss.length cb) Ss.length Ss) := hide ((unhide hRS).kept' (fun y hy => hk5 y (World.ownsRow.lt (unhide hRS) y hy).2 (fun e => ((unhide HK).ne y e).1 hy)))
          have HB5 : Hid (Below w.heap.size w W5) := hide ((unhide HK).bel.trans (hb5.mono (by omega)))
          have HNE := hide (unhide HK).ne
          clear hr5 hb5 hk5
          go_wp2_with fail
          refine (sortR_any (gt' + 1) _ Ss W5 (by omega) (by omega) (unhide HS5)).mono ?_
          rintro e W6 ⟨rfl, hr6, hb6, hs6, hk6⟩
          have HR6 := hide hr6
          have HA6 : Hid (Row W6 (w.heap.size + 1) 3 1 (.slice pa Hs.length ca) Hs.length (srt Hs)) := hide ((unhide HR5).kept' (fun y hy => hk6 y (World.ownsRow.lt (unhide HR5) y hy).2 (unhide HNE y hy).1))
          have HB6 : Hid (Below w.heap.size w W6) := hide ((unhide HB5).trans (hb6.mono (by omega)))
          clear hr6 hb6 hk6
          go_wp2_with fail
          refine bodyPost_ret (v := .tuple #[.slice pa Hs.length ca, .slice pb Ss.length cb]) (by simp [results, Try.results24, go_sem]) rfl ⟨⟨_, _, rfl, ?_, ?_, fun y hy => (unhide HNE y hy).1⟩, unhide HB6⟩
          · rw [← (unhide HE).1, srt_len]
            exact (unhide HA6).mono (by omega)
          · rw [← (unhide HE).2, srt_len]
            exact (unhide HR6).mono (by omega)
end Go.Proofs.Ytmoobfbjehgdnaa
