/-
  The model's strip: its corners, and the panel that meets one ahead of it.
-/
import Derived.Test.YtimkinpbimangaaBmR
import Derived.Test.YtimkinpbimangaaBnP
import Derived.Test.YtimkinpbimangaaCrossMW
namespace Go.Proofs.Ytimkinpbimangaa
open Go.ChangeShapes Go.WideShapes Go.ChangeAt Go.RowKit
set_option linter.unusedVariables false
set_option linter.unusedSimpArgs false

theorem adj_one {ps bs : List Int} (hp : ∀ x ∈ ps, 1 ≤ x ∧ x ≤ 1000) (hb : ∀ x ∈ bs, -1 ≤ x ∧ x ≤ 1) {j : Nat} (hj : j + 1 < ps.length) :
    (cross (cn ps bs j) (cn ps bs (j + 1)) (cn ps bs (j + 1)) (cn ps bs (j + 1 + 1))).length ≤ 1 := by
  have g1 : 1 ≤ ps.getD j 0 := by
    rw [List.getD_eq_getElem?_getD, List.getElem?_eq_getElem (show j < ps.length by omega)]
    exact (hp _ (List.getElem_mem _)).1
  have g2 : 1 ≤ ps.getD (j + 1) 0 := by
    rw [List.getD_eq_getElem?_getD, List.getElem?_eq_getElem hj]
    exact (hp _ (List.getElem_mem _)).1
  exact next_one (cn ps bs j) (wy bs j) (ps.getD j 0) (bs.getD j 0) (ps.getD (j + 1) 0) (wy_uw hb j) (getD_in hb (by omega) j) g1 g2
theorem wrap_eq {x y : Int} (e : x = y) (h1 : -1 ≤ y) (h2 : y ≤ 1) : IntKind.i64.wrap x = y := by rw [e]; exact wrap_i (by omega) (by omega)
/-- a slice of so many elements -/
def LenIs (n : Nat) (v : Value) : Prop := ∃ so cap, v = .slice so n cap
theorem crsN_any (a b c d : Pt) (w : World) (ha : ptOk a = true) (hb : ptOk b = true) (hc : ptOk c = true) (hd : ptOk d = true) :
    Calls Try.prog 61 #[ptv a, ptv b, ptv c, ptv d] w fun e w' => (∃ r_, e = .returned r_ ∧ LenIs (cross a b c d).length r_) ∧ Below w.heap.size w w' :=
  (crossM_any a b c d w ha hb hc hd).mono fun e w' ⟨⟨v, he, hv⟩, hb⟩ => ⟨⟨v, he, by
    rcases hv with ⟨rfl, h0⟩ | ⟨k, cap, rfl, _, _⟩
    · exact ⟨none, 0, by rw [h0]; rfl⟩
    · exact ⟨_, cap, rfl⟩⟩, hb⟩
def fstM (o : Option Nat) : Int := match o with | none => -1 | some i => (i : Int)
set_option maxHeartbeats 8000000 in
set_option maxRecDepth 100000 in
theorem stM_any (u v : Option Addr) (p po q qo n m cu cv : Nat) (ps bs : List Int) (w : World) (hl : ps.length = n) (hm : bs.length = m) (hs : stp ps bs = true) (hu : Its w u p po ps) (hv : Its w v q qo bs) :
    Calls Try.prog 38 #[.slice u n cu, .slice v m cv] w fun e w' => (∃ r, e = .returned (.tuple #[r, .int .i64 (fstM (fstB ps bs n))]) ∧ (fstB ps bs n = none → Row w' w.heap.size 32 2 r (n + 1) (fl2 (cns ps bs (n + 1))))) ∧ Below w.heap.size w w' := by
  obtain ⟨⟨n1, n2⟩, nm, hp, hb⟩ := stp_parts hs
  rw [hl] at n1 n2 nm
  rw [hm] at nm
  have HN := hide nm
  have nm1 : m ≤ n := by omega
  have HP := hide hp
  have HBS := hide hb
  have HU := hide hu
  have HV := hide hv
  have HL := hide hl
  have HM := hide hm
  have HOK : Hid (∀ i, i ≤ 41 → ptOk (cn ps bs i) = true) := hide (fun i hi => cn_ok hp hb hi)
  have HADJ : Hid (∀ j, j + 1 < n → (cross (cn ps bs j) (cn ps bs (j + 1)) (cn ps bs (j + 1)) (cn ps bs (j + 1 + 1))).length ≤ 1) := hide (fun j hj => adj_one hp hb (by rw [hl]; exact hj))
  have n0 : (0 : Int) ≤ (n : Int) := Int.natCast_nonneg _
  obtain ⟨iP, hi1, hp0, hp1, hp2⟩ := info_parts pt_info
  clear hp hb hu hv hl hm hs nm
  go_enter Try.func38, Try.ntmps38
  go_wp2_with fail
  go_loopw [7, 8, 9, 10] (fun d0 d1 r s W => ∃ i : Nat, d0 = .int .i64 (wy bs (i - 1)).1 ∧ d1 = .int .i64 (wy bs (i - 1)).2 ∧ s = .int .i64 (i : Int) ∧ i ≤ n ∧ Below w.heap.size w W ∧ w.heap.size + 1 < W.heap.size ∧ vb W w.heap.size 32 [.int .i64 (cn ps bs i).1, .int .i64 (cn ps bs i).2] ∧ Row W (w.heap.size + 1) 32 2 r (i + 1) (fl2 (cns ps bs (i + 1))) ∧ ∀ j, j < i → meetsB ps bs j = false) (fun _ _ _ s _ => n - (intOf s).toNat)
  case atStart => exact ⟨0, rfl, rfl, rfl, Nat.zero_le _, ba (ba (Below.refl _ _) _) _, by simp, (vb_new w 32 [.int .i64 0, .int .i64 0] _ rfl).bel (ba (Below.refl _ _) _), row_vb (L := [0, 0]) (vb_new (w.alloc (.cells #[.int .i64 0, .int .i64 0] 32)) 32 [.int .i64 0, .int .i64 0] _ (by simp)) (by decide) (Nat.le_refl _) (by omega), fun j hj => absurd hj (by omega)⟩
  case round =>
    obtain ⟨i, rfl, rfl, rfl, hi, hW, hsz, hC, hR, hF⟩ := hrel
    have HW := hide hW
    have HC := hide hC
    have HR := hide hR
    have HF := hide hF
    clear hW hC hR hF
    by_cases h : i < n
    · have i1 : (i : Int) < (n : Int) := by omega
      have i0 : (0 : Int) ≤ (i : Int) := Int.natCast_nonneg _
      have iz : decide ((i : Int) < (n : Int)) = true := decide_eq_true i1
      obtain ⟨l, hx⟩ := get_some (unhide HL) h
      obtain ⟨rfl, pw, kl⟩ := ((unhide HU).bel (unhide HW)).at hx
      have lb := unhide HP l (List.mem_of_getElem? hx)
      have gl : ps.getD i 0 = l := by rw [List.getD_eq_getElem?_getD, hx]; rfl
      have uv := wy_uw (unhide HBS) i
      have cb := cn_bd (unhide HP) (unhide HBS) i
      have sb := step_bd uv (p := l) (by omega)
      have E1 : (cn ps bs (i + 1)).1 = (cn ps bs i).1 + (wy bs i).1 * l := by rw [← gl]; rfl
      have E2 : (cn ps bs (i + 1)).2 = (cn ps bs i).2 + (wy bs i).2 * l := by rw [← gl]; rfl
      have W1 := hide (show IntKind.i64.wrap ((wy bs i).1 * l) = (wy bs i).1 * l from wrap_i (by omega) (by omega))
      have W2 := hide (show IntKind.i64.wrap ((cn ps bs i).1 + (wy bs i).1 * l) = (cn ps bs (i + 1)).1 from by rw [E1]; exact wrap_i (by omega) (by omega))
      have W3 := hide (show IntKind.i64.wrap ((wy bs i).2 * l) = (wy bs i).2 * l from wrap_i (by omega) (by omega))
      have W4 := hide (show IntKind.i64.wrap ((cn ps bs i).2 + (wy bs i).2 * l) = (cn ps bs (i + 1)).2 from by rw [E2]; exact wrap_i (by omega) (by omega))
      have HCI : Hid (∀ k, k < i → ∀ W, Calls Try.prog 61 #[ptv (cn ps bs k), ptv (cn ps bs (k + 1)), ptv (cn ps bs i), ptv (cn ps bs (i + 1))] W fun e w' => (∃ r_, e = .returned r_ ∧ LenIs (cross (cn ps bs k) (cn ps bs (k + 1)) (cn ps bs i) (cn ps bs (i + 1))).length r_) ∧ Below W.heap.size W w') := hide (fun k hk W => crsN_any _ _ _ _ W (unhide HOK k (by omega)) (unhide HOK (k + 1) (by omega)) (unhide HOK i (by omega)) (unhide HOK (i + 1) (by omega)))
      have A0 := hide ((unhide HC).cell (m := 0) rfl)
      have A1 := hide ((unhide HC).cell (m := 1) rfl)
      have KL := hide kl
      obtain ⟨g, cap, rfl, hg, hgl, hcap, hcm⟩ := (unhide HR).sm (by
        intro e
        subst e
        rcases (unhide HR).2 with ⟨_, h0⟩ | ⟨_, _, _, h0, _⟩
        · exact absurd h0 (by omega)
        · cases h0)
      clear hx gl uv cb sb E1 E2 kl pw lb hcm
      by_cases hz : i = 0
      · have ey : wy bs (i - 1) = wy bs i := by rw [hz]
        rw [ey]
        clear ey
        have tz : decide ((0 : Int) < (i : Int)) = false := decide_eq_false (by omega)
        have tz1 : ¬ (0 < i) := by omega
        have tz2 : ¬ ((0 : Int) < (i : Int)) := by omega
        have HZ0 := hide hz
        clear hz
        go_wp2_with fail
        refine Go.Code.wp_mono (Only.to (fun _ _ h => h)) (bm12 A0 A1 KL (hide h) W1 W2 (hide h) W3 W4 ?_)
        intro nb X1 hX1 vn hnb
        have HVN := hide vn
        have HC := hide ((unhide HC).bel hX1)
        have HR := hide ((unhide HR).below hX1)
        have HX1 := hide (bc (unhide HW) hX1)
        have szx := Nat.lt_of_lt_of_le hsz hX1.size
        have nbw : w.heap.size ≠ nb := by have := (unhide HW).size; omega
        clear hX1 vn hnb A0 A1 KL W1 W2 W3 W4
        go_wp2_with fail
        go_loopw [13] (fun s W => ∃ k : Nat, s = .int .i64 (k : Int) ∧ k ≤ i ∧ Below X1.heap.size X1 W ∧ ∀ k', k' < k → k' < i - 1 → hit ps bs i k' = false) (fun s _ => i - (intOf s).toNat)
        case atStart => exact ⟨0, rfl, Nat.zero_le _, Below.refl _ _, fun k hk => absurd hk (by omega)⟩
        case round =>
          obtain ⟨k, rfl, hk, hWk, hFk⟩ := hrel
          have HWk := hide hWk
          have HFk := hide hFk
          clear hWk hFk
          have HCk := hide ((unhide HC).bel (unhide HWk))
          have HRk := hide ((unhide HR).below (unhide HWk))
          have HVk := hide ((unhide HVN).bel (unhide HWk))
          have HBk := hide (bc (unhide HX1) (unhide HWk))
          have szk := Nat.lt_of_lt_of_le szx (unhide HWk).size
          by_cases hki : k < i
          · have q1 : (k : Int) < (i : Int) := by omega
            have q0 : (0 : Int) ≤ (k : Int) := Int.natCast_nonneg _
            have qz : decide ((k : Int) < (i : Int)) = true := decide_eq_true q1
            obtain ⟨s0, s1⟩ := fl2_cns_at ps bs (n := i + 1) (i := k) (by omega)
            obtain ⟨s2, s3⟩ := fl2_cns_at ps bs (n := i + 1) (i := k + 1) (by omega)
            have C0 := hide ((unhide HRk).cellAt s0)
            have C1 := hide ((unhide HRk).cellAt s1)
            have C2 := hide ((unhide HRk).cellAt s2)
            have C3 := hide ((unhide HRk).cellAt s3)
            have wk : IntKind.i64.wrap ((k : Int) + 1) = ((k + 1 : Nat) : Int) := by rw [wrap_i (by omega) (by omega)]; omega
            have HCK := hide (unhide HCI k hki)
            simp only [ptv] at HCK
            have HAJ : Hid (k + 1 = i → (cross (cn ps bs k) (cn ps bs (k + 1)) (cn ps bs i) (cn ps bs (i + 1))).length ≤ 1) := hide (fun e => by subst e; exact unhide HADJ k h)
            have HHC : Hid (hit ps bs i k = decide (0 < (cross (cn ps bs k) (cn ps bs (k + 1)) (cn ps bs i) (cn ps bs (i + 1))).length)) := hide rfl
            clear s0 s1 s2 s3
            generalize (cross (cn ps bs k) (cn ps bs (k + 1)) (cn ps bs i) (cn ps bs (i + 1))).length = len at HCK HAJ HHC
            go_wp2_with fail
            refine Go.Code.wp_mono (Only.to (fun _ _ h => h)) (bm16 (Pq := LenIs len) (j := k + 1) C0 C1 C2 C3 (hide ((unhide HCk).cell (m := 0) rfl)) (hide ((unhide HCk).cell (m := 1) rfl)) (hide ((unhide HVk).cell (m := 0) rfl)) (hide ((unhide HVk).cell (m := 1) rfl)) (hide (by omega)) (hide wk) (hide (by omega)) (hide fun X _ => unhide HCK X) ?_)
            intro sv X2 hX2 hsv
            obtain ⟨so, cap3, rfl⟩ := hsv
            have HB3 := hide (bc (unhide HWk) hX2)
            have HBW := hide (bc (unhide HBk) hX2)
            clear hX2 C0 C1 C2 C3 wk HCK
            by_cases hla : k + 1 = i
            · have e1 : ((k : Int) == (i : Int) - 1) = true := by simp; omega
              have e2 : (k : Int) = (i : Int) - 1 := by omega
              have hl1 := unhide HAJ hla
              have t1 : decide ((1 : Int) < (len : Int)) = false := decide_eq_false (by omega)
              have t2 : ¬ (1 : Int) < (len : Int) := by omega
              have HNX : Hid (∀ k', k' < k + 1 → k' < i - 1 → hit ps bs i k' = false) := hide (fun k' h1 h2 => unhide HFk k' (by omega) h2)
              have HE2 := hide e2
              clear e2
              go_wp2_with fail
              go_roundw
              case rel => first | exact ⟨k + 1, by simp, hki, unhide HB3, unhide HNX⟩ | ((repeat apply Exists.intro); refine ⟨?_, rfl⟩; exact ⟨k + 1, by simp, hki, unhide HB3, unhide HNX⟩)
              case measure => first | (simp only [intOf]; omega) | (simp [intOf]; omega)
            · have e1 : ((k : Int) == (i : Int) - 1) = false := by simp; omega
              have e2 : ¬ (k : Int) = (i : Int) - 1 := by omega
              by_cases hpos : 0 < len
              · have t1 : decide ((0 : Int) < (len : Int)) = true := decide_eq_true (by omega)
                have t2 : (0 : Int) < (len : Int) := by omega
                have HMT : Hid (meetsB ps bs i = true) := hide (meets_of (k := k) (by omega) (by rw [unhide HHC]; exact decide_eq_true hpos))
                go_wp2_with fail
                exact bodyPost_ret (v := .tuple #[.slice (some ⟨g, 0, none⟩) (i + 1) cap, .int .i64 (i : Int)]) (by simp [results, Try.results38, go_sem]) rfl ⟨⟨_, by rw [fst_some h (unhide HMT) (unhide HF)]; rfl, fun e => by rw [fst_some h (unhide HMT) (unhide HF)] at e; cases e⟩, unhide HBW⟩
              · have t1 : decide ((0 : Int) < (len : Int)) = false := decide_eq_false (by omega)
                have t2 : ¬ (0 : Int) < (len : Int) := by omega
                have HNX : Hid (∀ k', k' < k + 1 → k' < i - 1 → hit ps bs i k' = false) := hide (by
                  intro k' h1 h2
                  by_cases e : k' < k
                  · exact unhide HFk k' e h2
                  · obtain rfl : k' = k := by omega
                    rw [unhide HHC]
                    exact decide_eq_false hpos)
                go_wp2_with fail
                go_roundw
                case rel => first | exact ⟨k + 1, by simp, hki, unhide HB3, unhide HNX⟩ | ((repeat apply Exists.intro); refine ⟨?_, rfl⟩; exact ⟨k + 1, by simp, hki, unhide HB3, unhide HNX⟩)
                case measure => first | (simp only [intOf]; omega) | (simp [intOf]; omega)
          · have qz : decide ((k : Int) < (i : Int)) = false := decide_eq_false (by omega)
            have q1 : ¬ (k : Int) < (i : Int) := by omega
            have HNM : Hid (meetsB ps bs i = false) := hide (meets_not fun k' hk' => unhide HFk k' (by omega) hk')
            have HNX : Hid (∀ j, j < i + 1 → meetsB ps bs j = false) := hide (by
              intro j hj
              by_cases e : j < i
              · exact unhide HF j e
              · obtain rfl : j = i := by omega
                exact unhide HNM)
            rename World => X2
            have k0 := (unhide HVk).cell (m := 0) rfl
            have k1 := (unhide HVk).cell (m := 1) rfl
            have o0 := (unhide HCk).cell (m := 0) rfl
            have o1 := (unhide HCk).cell (m := 1) rfl
            have kf := (unhide HCk).frozen
            generalize hx1 : (cn ps bs (i + 1)).1 = x1 at *
            generalize hy1 : (cn ps bs (i + 1)).2 = y1 at *
            have EX1 := hide hx1
            have EY1 := hide hy1
            clear hx1 hy1
            have HC3 : Hid (vb ((X2.setCell ⟨w.heap.size, 0, none⟩ (.int .i64 x1)).setCell ⟨w.heap.size, 1, none⟩ (.int .i64 y1)) w.heap.size 32 [.int .i64 x1, .int .i64 y1]) := hide (((unhide HCk).set 0 _).set 1 _)
            have HR3 : Hid (Row ((X2.setCell ⟨w.heap.size, 0, none⟩ (.int .i64 x1)).setCell ⟨w.heap.size, 1, none⟩ (.int .i64 y1)) (w.heap.size + 1) 32 2 (.slice (some ⟨g, 0, none⟩) (i + 1) cap) (i + 1) (fl2 (cns ps bs (i + 1)))) := hide (((unhide HRk).ne (by omega)).ne (by omega))
            have HB3 : Hid (Below w.heap.size w ((X2.setCell ⟨w.heap.size, 0, none⟩ (.int .i64 x1)).setCell ⟨w.heap.size, 1, none⟩ (.int .i64 y1))) := hide (((unhide HBk).setCell (by simp) _).setCell (by simp) _)
            have sz3 : w.heap.size + 1 < ((X2.setCell ⟨w.heap.size, 0, none⟩ (.int .i64 x1)).setCell ⟨w.heap.size, 1, none⟩ (.int .i64 y1)).heap.size := by simpa using szk
            go_wp2_with (at_builtin; refine unhide ?_)
            refine hide ?_
            generalize hX : ((X2.setCell ⟨w.heap.size, 0, none⟩ (.int .i64 x1)).setCell ⟨w.heap.size, 1, none⟩ (.int .i64 y1)) = X at *
            have HXS : Hid (X2.heap.size = X.heap.size) := hide (by rw [← hX]; simp)
            clear hX HCk HVk HRk HBk szk k0 k1 o0 o1 kf
            refine wpList_append_own _ rfl _ _ 26 rfl (w.heap.size + 1) 32 iP _ 2 16 Try.underlying26 hi1 hp0 hp1 hp2 rfl (by decide) _ _ _ rfl ((unhide HR3).below (ba (Below.refl _ _) _)) _ 1 1 ([x1, y1].map (Value.int .i64)) rfl rfl (by exact news_cells _ _ (unhide HXS)) ints_one (by unfold maxLen; omega) (by omega) (by first | omega | (simp; omega)) ?_
            intro v' wz hown' hgrow _
            obtain ⟨R4, B4⟩ := own_more (wr := X) (news := [x1, y1]) (by repeat (first | exact Below.refl _ _ | refine Below.alloc ?_ (by first | omega | (simp; omega)) _ | refine Below.drew ?_)) (by simp; omega) (unhide HR3) hown' hgrow
            have R5 : Hid (Row wz (w.heap.size + 1) 32 2 v' (i + 1 + 1) (fl2 (cns ps bs (i + 1 + 1)))) := hide (by rw [fl2_cns_succ ps bs (i + 1), unhide EX1, unhide EY1]; exact R4)
            have C5 : Hid (vb wz w.heap.size 32 [.int .i64 (cn ps bs (i + 1)).1, .int .i64 (cn ps bs (i + 1)).2]) := hide (by rw [unhide EX1, unhide EY1]; exact (unhide HC3).below B4 (by omega))
            have B5 := hide ((unhide HB3).trans (B4.mono (by omega)))
            have sz5 : w.heap.size + 1 < wz.heap.size := Nat.lt_of_lt_of_le sz3 B4.size
            clear hown' hgrow R4 B4
            go_wp2_with fail
            go_roundw
            case rel => first | exact ⟨i + 1, rfl, rfl, by simp, h, unhide B5, sz5, unhide C5, unhide R5, unhide HNX⟩ | ((repeat apply Exists.intro); refine ⟨?_, rfl⟩; exact ⟨i + 1, rfl, rfl, by simp, h, unhide B5, sz5, unhide C5, unhide R5, unhide HNX⟩)
            case measure => first | (simp only [intOf]; omega) | (simp [intOf]; omega)
      obtain ⟨j, hj⟩ : ∃ j, i = j + 1 := ⟨i - 1, by omega⟩
      have tz : decide ((0 : Int) < (i : Int)) = true := decide_eq_true (by omega)
      have tz1 : 0 < i := by omega
      have tz2 : (0 : Int) < (i : Int) := by omega
      have hjm : j < m := by have := unhide HN; omega
      obtain ⟨b, hbx⟩ := get_some (unhide HM) hjm
      obtain ⟨rfl, pw, kb⟩ := ((unhide HV).bel (unhide HW)).at hbx
      have bb := unhide HBS b (List.mem_of_getElem? hbx)
      have gb : bs.getD j 0 = b := by rw [List.getD_eq_getElem?_getD, hbx]; rfl
      have ety : wy bs i = trn (wy bs j) b := by rw [hj, ← gb]; rfl
      have esub : wy bs (i - 1) = wy bs j := by rw [hj]; rfl
      have wj : IntKind.i64.wrap ((i : Int) - 1) = (j : Int) := by rw [wrap_i (by omega) (by omega)]; omega
      have hji : (j : Int) < (m : Int) := by omega
      have j0 : (0 : Int) ≤ (j : Int) := Int.natCast_nonneg _
      have uj := wy_uw (unhide HBS) j
      have sm := small_mul uj bb
      have ub := uw_bd uj
      rw [esub]
      have HJ := hide hj
      clear esub hj hbx gb pw uj
      by_cases hb0 : b = 0
      · have ew : wy bs j = wy bs i := by rw [ety]; unfold trn; rw [if_pos hb0]
        rw [ew]
        have bz : (b != 0) = false := by simp [hb0]
        subst hb0
        clear ew ety sm ub bb
        go_wp2_with fail
        clear wj
        refine Go.Code.wp_mono (Only.to (fun _ _ h => h)) (bm12 A0 A1 KL (hide h) W1 W2 (hide h) W3 W4 ?_)
        intro nb X1 hX1 vn hnb
        have HVN := hide vn
        have HC := hide ((unhide HC).bel hX1)
        have HR := hide ((unhide HR).below hX1)
        have HX1 := hide (bc (unhide HW) hX1)
        have szx := Nat.lt_of_lt_of_le hsz hX1.size
        have nbw : w.heap.size ≠ nb := by have := (unhide HW).size; omega
        clear hX1 vn hnb A0 A1 KL W1 W2 W3 W4
        go_wp2_with fail
        go_loopw [13] (fun s W => ∃ k : Nat, s = .int .i64 (k : Int) ∧ k ≤ i ∧ Below X1.heap.size X1 W ∧ ∀ k', k' < k → k' < i - 1 → hit ps bs i k' = false) (fun s _ => i - (intOf s).toNat)
        case atStart => exact ⟨0, rfl, Nat.zero_le _, Below.refl _ _, fun k hk => absurd hk (by omega)⟩
        case round =>
          obtain ⟨k, rfl, hk, hWk, hFk⟩ := hrel
          have HWk := hide hWk
          have HFk := hide hFk
          clear hWk hFk
          have HCk := hide ((unhide HC).bel (unhide HWk))
          have HRk := hide ((unhide HR).below (unhide HWk))
          have HVk := hide ((unhide HVN).bel (unhide HWk))
          have HBk := hide (bc (unhide HX1) (unhide HWk))
          have szk := Nat.lt_of_lt_of_le szx (unhide HWk).size
          by_cases hki : k < i
          · have q1 : (k : Int) < (i : Int) := by omega
            have q0 : (0 : Int) ≤ (k : Int) := Int.natCast_nonneg _
            have qz : decide ((k : Int) < (i : Int)) = true := decide_eq_true q1
            obtain ⟨s0, s1⟩ := fl2_cns_at ps bs (n := i + 1) (i := k) (by omega)
            obtain ⟨s2, s3⟩ := fl2_cns_at ps bs (n := i + 1) (i := k + 1) (by omega)
            have C0 := hide ((unhide HRk).cellAt s0)
            have C1 := hide ((unhide HRk).cellAt s1)
            have C2 := hide ((unhide HRk).cellAt s2)
            have C3 := hide ((unhide HRk).cellAt s3)
            have wk : IntKind.i64.wrap ((k : Int) + 1) = ((k + 1 : Nat) : Int) := by rw [wrap_i (by omega) (by omega)]; omega
            have HCK := hide (unhide HCI k hki)
            simp only [ptv] at HCK
            have HAJ : Hid (k + 1 = i → (cross (cn ps bs k) (cn ps bs (k + 1)) (cn ps bs i) (cn ps bs (i + 1))).length ≤ 1) := hide (fun e => by subst e; exact unhide HADJ k h)
            have HHC : Hid (hit ps bs i k = decide (0 < (cross (cn ps bs k) (cn ps bs (k + 1)) (cn ps bs i) (cn ps bs (i + 1))).length)) := hide rfl
            clear s0 s1 s2 s3
            generalize (cross (cn ps bs k) (cn ps bs (k + 1)) (cn ps bs i) (cn ps bs (i + 1))).length = len at HCK HAJ HHC
            go_wp2_with fail
            refine Go.Code.wp_mono (Only.to (fun _ _ h => h)) (bm16 (Pq := LenIs len) (j := k + 1) C0 C1 C2 C3 (hide ((unhide HCk).cell (m := 0) rfl)) (hide ((unhide HCk).cell (m := 1) rfl)) (hide ((unhide HVk).cell (m := 0) rfl)) (hide ((unhide HVk).cell (m := 1) rfl)) (hide (by omega)) (hide wk) (hide (by omega)) (hide fun X _ => unhide HCK X) ?_)
            intro sv X2 hX2 hsv
            obtain ⟨so, cap3, rfl⟩ := hsv
            have HB3 := hide (bc (unhide HWk) hX2)
            have HBW := hide (bc (unhide HBk) hX2)
            clear hX2 C0 C1 C2 C3 wk HCK
            by_cases hla : k + 1 = i
            · have e1 : ((k : Int) == (i : Int) - 1) = true := by simp; omega
              have e2 : (k : Int) = (i : Int) - 1 := by omega
              have hl1 := unhide HAJ hla
              have t1 : decide ((1 : Int) < (len : Int)) = false := decide_eq_false (by omega)
              have t2 : ¬ (1 : Int) < (len : Int) := by omega
              have HNX : Hid (∀ k', k' < k + 1 → k' < i - 1 → hit ps bs i k' = false) := hide (fun k' h1 h2 => unhide HFk k' (by omega) h2)
              have HE2 := hide e2
              clear e2
              go_wp2_with fail
              go_roundw
              case rel => first | exact ⟨k + 1, by simp, hki, unhide HB3, unhide HNX⟩ | ((repeat apply Exists.intro); refine ⟨?_, rfl⟩; exact ⟨k + 1, by simp, hki, unhide HB3, unhide HNX⟩)
              case measure => first | (simp only [intOf]; omega) | (simp [intOf]; omega)
            · have e1 : ((k : Int) == (i : Int) - 1) = false := by simp; omega
              have e2 : ¬ (k : Int) = (i : Int) - 1 := by omega
              by_cases hpos : 0 < len
              · have t1 : decide ((0 : Int) < (len : Int)) = true := decide_eq_true (by omega)
                have t2 : (0 : Int) < (len : Int) := by omega
                have HMT : Hid (meetsB ps bs i = true) := hide (meets_of (k := k) (by omega) (by rw [unhide HHC]; exact decide_eq_true hpos))
                go_wp2_with fail
                exact bodyPost_ret (v := .tuple #[.slice (some ⟨g, 0, none⟩) (i + 1) cap, .int .i64 (i : Int)]) (by simp [results, Try.results38, go_sem]) rfl ⟨⟨_, by rw [fst_some h (unhide HMT) (unhide HF)]; rfl, fun e => by rw [fst_some h (unhide HMT) (unhide HF)] at e; cases e⟩, unhide HBW⟩
              · have t1 : decide ((0 : Int) < (len : Int)) = false := decide_eq_false (by omega)
                have t2 : ¬ (0 : Int) < (len : Int) := by omega
                have HNX : Hid (∀ k', k' < k + 1 → k' < i - 1 → hit ps bs i k' = false) := hide (by
                  intro k' h1 h2
                  by_cases e : k' < k
                  · exact unhide HFk k' e h2
                  · obtain rfl : k' = k := by omega
                    rw [unhide HHC]
                    exact decide_eq_false hpos)
                go_wp2_with fail
                go_roundw
                case rel => first | exact ⟨k + 1, by simp, hki, unhide HB3, unhide HNX⟩ | ((repeat apply Exists.intro); refine ⟨?_, rfl⟩; exact ⟨k + 1, by simp, hki, unhide HB3, unhide HNX⟩)
                case measure => first | (simp only [intOf]; omega) | (simp [intOf]; omega)
          · have qz : decide ((k : Int) < (i : Int)) = false := decide_eq_false (by omega)
            have q1 : ¬ (k : Int) < (i : Int) := by omega
            have HNM : Hid (meetsB ps bs i = false) := hide (meets_not fun k' hk' => unhide HFk k' (by omega) hk')
            have HNX : Hid (∀ j, j < i + 1 → meetsB ps bs j = false) := hide (by
              intro j hj
              by_cases e : j < i
              · exact unhide HF j e
              · obtain rfl : j = i := by omega
                exact unhide HNM)
            rename World => X2
            have k0 := (unhide HVk).cell (m := 0) rfl
            have k1 := (unhide HVk).cell (m := 1) rfl
            have o0 := (unhide HCk).cell (m := 0) rfl
            have o1 := (unhide HCk).cell (m := 1) rfl
            have kf := (unhide HCk).frozen
            generalize hx1 : (cn ps bs (i + 1)).1 = x1 at *
            generalize hy1 : (cn ps bs (i + 1)).2 = y1 at *
            have EX1 := hide hx1
            have EY1 := hide hy1
            clear hx1 hy1
            have HC3 : Hid (vb ((X2.setCell ⟨w.heap.size, 0, none⟩ (.int .i64 x1)).setCell ⟨w.heap.size, 1, none⟩ (.int .i64 y1)) w.heap.size 32 [.int .i64 x1, .int .i64 y1]) := hide (((unhide HCk).set 0 _).set 1 _)
            have HR3 : Hid (Row ((X2.setCell ⟨w.heap.size, 0, none⟩ (.int .i64 x1)).setCell ⟨w.heap.size, 1, none⟩ (.int .i64 y1)) (w.heap.size + 1) 32 2 (.slice (some ⟨g, 0, none⟩) (i + 1) cap) (i + 1) (fl2 (cns ps bs (i + 1)))) := hide (((unhide HRk).ne (by omega)).ne (by omega))
            have HB3 : Hid (Below w.heap.size w ((X2.setCell ⟨w.heap.size, 0, none⟩ (.int .i64 x1)).setCell ⟨w.heap.size, 1, none⟩ (.int .i64 y1))) := hide (((unhide HBk).setCell (by simp) _).setCell (by simp) _)
            have sz3 : w.heap.size + 1 < ((X2.setCell ⟨w.heap.size, 0, none⟩ (.int .i64 x1)).setCell ⟨w.heap.size, 1, none⟩ (.int .i64 y1)).heap.size := by simpa using szk
            go_wp2_with (at_builtin; refine unhide ?_)
            refine hide ?_
            generalize hX : ((X2.setCell ⟨w.heap.size, 0, none⟩ (.int .i64 x1)).setCell ⟨w.heap.size, 1, none⟩ (.int .i64 y1)) = X at *
            have HXS : Hid (X2.heap.size = X.heap.size) := hide (by rw [← hX]; simp)
            clear hX HCk HVk HRk HBk szk k0 k1 o0 o1 kf
            refine wpList_append_own _ rfl _ _ 26 rfl (w.heap.size + 1) 32 iP _ 2 16 Try.underlying26 hi1 hp0 hp1 hp2 rfl (by decide) _ _ _ rfl ((unhide HR3).below (ba (Below.refl _ _) _)) _ 1 1 ([x1, y1].map (Value.int .i64)) rfl rfl (by exact news_cells _ _ (unhide HXS)) ints_one (by unfold maxLen; omega) (by omega) (by first | omega | (simp; omega)) ?_
            intro v' wz hown' hgrow _
            obtain ⟨R4, B4⟩ := own_more (wr := X) (news := [x1, y1]) (by repeat (first | exact Below.refl _ _ | refine Below.alloc ?_ (by first | omega | (simp; omega)) _ | refine Below.drew ?_)) (by simp; omega) (unhide HR3) hown' hgrow
            have R5 : Hid (Row wz (w.heap.size + 1) 32 2 v' (i + 1 + 1) (fl2 (cns ps bs (i + 1 + 1)))) := hide (by rw [fl2_cns_succ ps bs (i + 1), unhide EX1, unhide EY1]; exact R4)
            have C5 : Hid (vb wz w.heap.size 32 [.int .i64 (cn ps bs (i + 1)).1, .int .i64 (cn ps bs (i + 1)).2]) := hide (by rw [unhide EX1, unhide EY1]; exact (unhide HC3).below B4 (by omega))
            have B5 := hide ((unhide HB3).trans (B4.mono (by omega)))
            have sz5 : w.heap.size + 1 < wz.heap.size := Nat.lt_of_lt_of_le sz3 B4.size
            clear hown' hgrow R4 B4
            go_wp2_with fail
            go_roundw
            case rel => first | exact ⟨i + 1, rfl, rfl, by simp, h, unhide B5, sz5, unhide C5, unhide R5, unhide HNX⟩ | ((repeat apply Exists.intro); refine ⟨?_, rfl⟩; exact ⟨i + 1, rfl, rfl, by simp, h, unhide B5, sz5, unhide C5, unhide R5, unhide HNX⟩)
            case measure => first | (simp only [intOf]; omega) | (simp [intOf]; omega)
      · have ew : wy bs i = (-b * (wy bs j).2, b * (wy bs j).1) := by rw [ety]; unfold trn; rw [if_neg hb0]
        have bz : (b != 0) = true := by simp [hb0]
        obtain ⟨e0, e1⟩ : (wy bs i).1 = -b * (wy bs j).2 ∧ (wy bs i).2 = b * (wy bs j).1 := by rw [ew]; exact ⟨rfl, rfl⟩
        generalize hd0 : (wy bs j).1 = d0 at *
        generalize hd1 : (wy bs j).2 = d1 at *
        have w5 : IntKind.i64.wrap (-d1) = -d1 := wrap_i (by omega) (by omega)
        have w6 : IntKind.i64.wrap (-d1 * b) = (wy bs i).1 := wrap_eq (by rw [e0]; grind) (by rw [e0]; omega) (by rw [e0]; omega)
        have w7 : IntKind.i64.wrap (d0 * b) = (wy bs i).2 := wrap_eq (by rw [e1]; grind) (by rw [e1]; omega) (by rw [e1]; omega)
        clear ew ety sm ub bb e0 e1 hd0 hd1
        go_wp2_with fail
        clear wj w5 w6 w7
        refine Go.Code.wp_mono (Only.to (fun _ _ h => h)) (bm12 A0 A1 KL (hide h) W1 W2 (hide h) W3 W4 ?_)
        intro nb X1 hX1 vn hnb
        have HVN := hide vn
        have HC := hide ((unhide HC).bel hX1)
        have HR := hide ((unhide HR).below hX1)
        have HX1 := hide (bc (unhide HW) hX1)
        have szx := Nat.lt_of_lt_of_le hsz hX1.size
        have nbw : w.heap.size ≠ nb := by have := (unhide HW).size; omega
        clear hX1 vn hnb A0 A1 KL W1 W2 W3 W4
        go_wp2_with fail
        go_loopw [13] (fun s W => ∃ k : Nat, s = .int .i64 (k : Int) ∧ k ≤ i ∧ Below X1.heap.size X1 W ∧ ∀ k', k' < k → k' < i - 1 → hit ps bs i k' = false) (fun s _ => i - (intOf s).toNat)
        case atStart => exact ⟨0, rfl, Nat.zero_le _, Below.refl _ _, fun k hk => absurd hk (by omega)⟩
        case round =>
          obtain ⟨k, rfl, hk, hWk, hFk⟩ := hrel
          have HWk := hide hWk
          have HFk := hide hFk
          clear hWk hFk
          have HCk := hide ((unhide HC).bel (unhide HWk))
          have HRk := hide ((unhide HR).below (unhide HWk))
          have HVk := hide ((unhide HVN).bel (unhide HWk))
          have HBk := hide (bc (unhide HX1) (unhide HWk))
          have szk := Nat.lt_of_lt_of_le szx (unhide HWk).size
          by_cases hki : k < i
          · have q1 : (k : Int) < (i : Int) := by omega
            have q0 : (0 : Int) ≤ (k : Int) := Int.natCast_nonneg _
            have qz : decide ((k : Int) < (i : Int)) = true := decide_eq_true q1
            obtain ⟨s0, s1⟩ := fl2_cns_at ps bs (n := i + 1) (i := k) (by omega)
            obtain ⟨s2, s3⟩ := fl2_cns_at ps bs (n := i + 1) (i := k + 1) (by omega)
            have C0 := hide ((unhide HRk).cellAt s0)
            have C1 := hide ((unhide HRk).cellAt s1)
            have C2 := hide ((unhide HRk).cellAt s2)
            have C3 := hide ((unhide HRk).cellAt s3)
            have wk : IntKind.i64.wrap ((k : Int) + 1) = ((k + 1 : Nat) : Int) := by rw [wrap_i (by omega) (by omega)]; omega
            have HCK := hide (unhide HCI k hki)
            simp only [ptv] at HCK
            have HAJ : Hid (k + 1 = i → (cross (cn ps bs k) (cn ps bs (k + 1)) (cn ps bs i) (cn ps bs (i + 1))).length ≤ 1) := hide (fun e => by subst e; exact unhide HADJ k h)
            have HHC : Hid (hit ps bs i k = decide (0 < (cross (cn ps bs k) (cn ps bs (k + 1)) (cn ps bs i) (cn ps bs (i + 1))).length)) := hide rfl
            clear s0 s1 s2 s3
            generalize (cross (cn ps bs k) (cn ps bs (k + 1)) (cn ps bs i) (cn ps bs (i + 1))).length = len at HCK HAJ HHC
            go_wp2_with fail
            refine Go.Code.wp_mono (Only.to (fun _ _ h => h)) (bm16 (Pq := LenIs len) (j := k + 1) C0 C1 C2 C3 (hide ((unhide HCk).cell (m := 0) rfl)) (hide ((unhide HCk).cell (m := 1) rfl)) (hide ((unhide HVk).cell (m := 0) rfl)) (hide ((unhide HVk).cell (m := 1) rfl)) (hide (by omega)) (hide wk) (hide (by omega)) (hide fun X _ => unhide HCK X) ?_)
            intro sv X2 hX2 hsv
            obtain ⟨so, cap3, rfl⟩ := hsv
            have HB3 := hide (bc (unhide HWk) hX2)
            have HBW := hide (bc (unhide HBk) hX2)
            clear hX2 C0 C1 C2 C3 wk HCK
            by_cases hla : k + 1 = i
            · have e1 : ((k : Int) == (i : Int) - 1) = true := by simp; omega
              have e2 : (k : Int) = (i : Int) - 1 := by omega
              have hl1 := unhide HAJ hla
              have t1 : decide ((1 : Int) < (len : Int)) = false := decide_eq_false (by omega)
              have t2 : ¬ (1 : Int) < (len : Int) := by omega
              have HNX : Hid (∀ k', k' < k + 1 → k' < i - 1 → hit ps bs i k' = false) := hide (fun k' h1 h2 => unhide HFk k' (by omega) h2)
              have HE2 := hide e2
              clear e2
              go_wp2_with fail
              go_roundw
              case rel => first | exact ⟨k + 1, by simp, hki, unhide HB3, unhide HNX⟩ | ((repeat apply Exists.intro); refine ⟨?_, rfl⟩; exact ⟨k + 1, by simp, hki, unhide HB3, unhide HNX⟩)
              case measure => first | (simp only [intOf]; omega) | (simp [intOf]; omega)
            · have e1 : ((k : Int) == (i : Int) - 1) = false := by simp; omega
              have e2 : ¬ (k : Int) = (i : Int) - 1 := by omega
              by_cases hpos : 0 < len
              · have t1 : decide ((0 : Int) < (len : Int)) = true := decide_eq_true (by omega)
                have t2 : (0 : Int) < (len : Int) := by omega
                have HMT : Hid (meetsB ps bs i = true) := hide (meets_of (k := k) (by omega) (by rw [unhide HHC]; exact decide_eq_true hpos))
                go_wp2_with fail
                exact bodyPost_ret (v := .tuple #[.slice (some ⟨g, 0, none⟩) (i + 1) cap, .int .i64 (i : Int)]) (by simp [results, Try.results38, go_sem]) rfl ⟨⟨_, by rw [fst_some h (unhide HMT) (unhide HF)]; rfl, fun e => by rw [fst_some h (unhide HMT) (unhide HF)] at e; cases e⟩, unhide HBW⟩
              · have t1 : decide ((0 : Int) < (len : Int)) = false := decide_eq_false (by omega)
                have t2 : ¬ (0 : Int) < (len : Int) := by omega
                have HNX : Hid (∀ k', k' < k + 1 → k' < i - 1 → hit ps bs i k' = false) := hide (by
                  intro k' h1 h2
                  by_cases e : k' < k
                  · exact unhide HFk k' e h2
                  · obtain rfl : k' = k := by omega
                    rw [unhide HHC]
                    exact decide_eq_false hpos)
                go_wp2_with fail
                go_roundw
                case rel => first | exact ⟨k + 1, by simp, hki, unhide HB3, unhide HNX⟩ | ((repeat apply Exists.intro); refine ⟨?_, rfl⟩; exact ⟨k + 1, by simp, hki, unhide HB3, unhide HNX⟩)
                case measure => first | (simp only [intOf]; omega) | (simp [intOf]; omega)
          · have qz : decide ((k : Int) < (i : Int)) = false := decide_eq_false (by omega)
            have q1 : ¬ (k : Int) < (i : Int) := by omega
            have HNM : Hid (meetsB ps bs i = false) := hide (meets_not fun k' hk' => unhide HFk k' (by omega) hk')
            have HNX : Hid (∀ j, j < i + 1 → meetsB ps bs j = false) := hide (by
              intro j hj
              by_cases e : j < i
              · exact unhide HF j e
              · obtain rfl : j = i := by omega
                exact unhide HNM)
            rename World => X2
            have k0 := (unhide HVk).cell (m := 0) rfl
            have k1 := (unhide HVk).cell (m := 1) rfl
            have o0 := (unhide HCk).cell (m := 0) rfl
            have o1 := (unhide HCk).cell (m := 1) rfl
            have kf := (unhide HCk).frozen
            generalize hx1 : (cn ps bs (i + 1)).1 = x1 at *
            generalize hy1 : (cn ps bs (i + 1)).2 = y1 at *
            have EX1 := hide hx1
            have EY1 := hide hy1
            clear hx1 hy1
            have HC3 : Hid (vb ((X2.setCell ⟨w.heap.size, 0, none⟩ (.int .i64 x1)).setCell ⟨w.heap.size, 1, none⟩ (.int .i64 y1)) w.heap.size 32 [.int .i64 x1, .int .i64 y1]) := hide (((unhide HCk).set 0 _).set 1 _)
            have HR3 : Hid (Row ((X2.setCell ⟨w.heap.size, 0, none⟩ (.int .i64 x1)).setCell ⟨w.heap.size, 1, none⟩ (.int .i64 y1)) (w.heap.size + 1) 32 2 (.slice (some ⟨g, 0, none⟩) (i + 1) cap) (i + 1) (fl2 (cns ps bs (i + 1)))) := hide (((unhide HRk).ne (by omega)).ne (by omega))
            have HB3 : Hid (Below w.heap.size w ((X2.setCell ⟨w.heap.size, 0, none⟩ (.int .i64 x1)).setCell ⟨w.heap.size, 1, none⟩ (.int .i64 y1))) := hide (((unhide HBk).setCell (by simp) _).setCell (by simp) _)
            have sz3 : w.heap.size + 1 < ((X2.setCell ⟨w.heap.size, 0, none⟩ (.int .i64 x1)).setCell ⟨w.heap.size, 1, none⟩ (.int .i64 y1)).heap.size := by simpa using szk
            go_wp2_with (at_builtin; refine unhide ?_)
            refine hide ?_
            generalize hX : ((X2.setCell ⟨w.heap.size, 0, none⟩ (.int .i64 x1)).setCell ⟨w.heap.size, 1, none⟩ (.int .i64 y1)) = X at *
            have HXS : Hid (X2.heap.size = X.heap.size) := hide (by rw [← hX]; simp)
            clear hX HCk HVk HRk HBk szk k0 k1 o0 o1 kf
            refine wpList_append_own _ rfl _ _ 26 rfl (w.heap.size + 1) 32 iP _ 2 16 Try.underlying26 hi1 hp0 hp1 hp2 rfl (by decide) _ _ _ rfl ((unhide HR3).below (ba (Below.refl _ _) _)) _ 1 1 ([x1, y1].map (Value.int .i64)) rfl rfl (by exact news_cells _ _ (unhide HXS)) ints_one (by unfold maxLen; omega) (by omega) (by first | omega | (simp; omega)) ?_
            intro v' wz hown' hgrow _
            obtain ⟨R4, B4⟩ := own_more (wr := X) (news := [x1, y1]) (by repeat (first | exact Below.refl _ _ | refine Below.alloc ?_ (by first | omega | (simp; omega)) _ | refine Below.drew ?_)) (by simp; omega) (unhide HR3) hown' hgrow
            have R5 : Hid (Row wz (w.heap.size + 1) 32 2 v' (i + 1 + 1) (fl2 (cns ps bs (i + 1 + 1)))) := hide (by rw [fl2_cns_succ ps bs (i + 1), unhide EX1, unhide EY1]; exact R4)
            have C5 : Hid (vb wz w.heap.size 32 [.int .i64 (cn ps bs (i + 1)).1, .int .i64 (cn ps bs (i + 1)).2]) := hide (by rw [unhide EX1, unhide EY1]; exact (unhide HC3).below B4 (by omega))
            have B5 := hide ((unhide HB3).trans (B4.mono (by omega)))
            have sz5 : w.heap.size + 1 < wz.heap.size := Nat.lt_of_lt_of_le sz3 B4.size
            clear hown' hgrow R4 B4
            go_wp2_with fail
            go_roundw
            case rel => first | exact ⟨i + 1, rfl, rfl, by simp, h, unhide B5, sz5, unhide C5, unhide R5, unhide HNX⟩ | ((repeat apply Exists.intro); refine ⟨?_, rfl⟩; exact ⟨i + 1, rfl, rfl, by simp, h, unhide B5, sz5, unhide C5, unhide R5, unhide HNX⟩)
            case measure => first | (simp only [intOf]; omega) | (simp [intOf]; omega)
    · have iz : decide ((i : Int) < (n : Int)) = false := decide_eq_false (by omega)
      obtain rfl : n = i := by omega
      go_wp2_with fail
      exact bodyPost_ret (v := .tuple #[u9, .int .i64 (-1)]) (by simp [results, Try.results38, go_sem]) rfl ⟨⟨_, by rw [fst_none (unhide HF)]; rfl, fun _ => (unhide HR).mono (by omega)⟩, unhide HW⟩
end Go.Proofs.Ytimkinpbimangaa
