/-
  The sways of masses by the program.
-/
import Derived.Test.YtgocgcnpgmamiaaSwLf
import Derived.Test.YtgocgcnpgmamiaaSwPr
namespace Go.Proofs.Ytgocgcnpgmamiaa
open Go.ChangeShapes Go.WideShapes Go.ChangeAt Go.RowKit
set_option linter.unusedVariables false
set_option linter.unusedSimpArgs false
attribute [local go_sem] run_store_flt run_store_cpx

def cx (z : Nat × Nat) : Value := .complex .f64 z.1 z.2
def tz (z : Nat × Nat) : Tn := tv z.1 z.2
/-- a block of complex numbers -/
def cblk (w : World) (g : Nat) (Z : List (Nat × Nat)) : Prop := vb w g 72 (Z.map cx)
theorem cblk.at {w : World} {g i : Nat} {Z : List (Nat × Nat)} {z : Nat × Nat} (h : cblk w g Z) (hz : Z[i]? = some z) : w.cell? ⟨g, i, none⟩ = some (.complex .f64 z.1 z.2) := h.cell (by rw [List.getElem?_map, hz]; rfl)
theorem cblk.put {w : World} {g : Nat} {Z : List (Nat × Nat)} (h : cblk w g Z) (i a b : Nat) : cblk (w.setCell ⟨g, i, none⟩ (.complex .f64 a b)) g (Z.set i (a, b)) := by
  have := vb.set h i (.complex .f64 a b)
  unfold cblk
  rw [List.map_set]
  exact this
theorem cx_info : (Try.prog.info? 72).map (fun i => (i.zero, i.size, i.bytes)) = some (some (.complex .f64 0 0), 1, 16) := by kernel_rfl
theorem made_one (v : Value) (n : Nat) : madeCells #[v] n = (List.replicate n v).toArray := by
  apply Array.ext
  · simp [madeCells]
  · intro i h1 h2
    simp [madeCells, Nat.mod_one]
theorem make_cx (n : Nat) (hn : n ≤ 4096) (W : World) : (Instr.makeSlice 69 (.int .i64 (n : Int)) (.int .i64 (n : Int))).run Try.prog W = .ok (.slice (some ⟨W.heap.size, 0, none⟩) n n) (W.alloc (.cells ((List.replicate n ((0, 0) : Nat × Nat)).map cx).toArray 72)) := by
  obtain ⟨i, hx, h0, h1, h2⟩ := info_parts cx_info
  have := run_make (P := Try.prog) W 69 72 i _ Try.underlying69 hx h0 .i64 .i64 n n (by omega) (by omega) (by rw [h2]; omega) (by omega)
  rw [Int.toNat_natCast, h1, Nat.mul_one] at this
  rw [this]
  simp [made_one, cx, Value.cells]
theorem cblk_new (W : World) (Z : List (Nat × Nat)) : cblk (W.alloc (.cells (Z.map cx).toArray 72)) W.heap.size Z := vb_new W 72 _ _ rfl
/-- what was put down stands; what stood ahead of it too -/
theorem put_at {Z : List (Nat × Nat)} {f : Nat → Tn} {i : Nat} {z : Nat × Nat} (hi : i < Z.length) (h : ∀ j y, j < i → Z[j]? = some y → tz y = f j) (hz : tz z = f i) : ∀ j y, j < i + 1 → (Z.set i z)[j]? = some y → tz y = f j := by
  intro j y hj hy
  by_cases e : j = i
  · subst e
    rw [List.getElem?_set_self hi] at hy
    cases hy
    exact hz
  · rw [List.getElem?_set_ne (fun h => e h.symm)] at hy
    exact h j y (by omega) hy
theorem zget {Z : List (Nat × Nat)} {n i : Nat} (hl : Z.length = n) (h : i < n) : ∃ z, Z[i]? = some z := ⟨Z[i]'(by omega), List.getElem?_eq_getElem _⟩

set_option maxHeartbeats 1000000 in
theorem linksP (u : Option Addr) (p po n c : Nat) (L : List Nat) (wb : Nat) (w : World) (hl : L.length = n * 3) (hn : n ≤ 20) (hu : Fls .f64 w u p po L) :
    Calls Try.prog 43 #[.slice u n c, .float .f64 wb] w fun e w' => (∃ (g : Nat) (Z : List (Nat × Nat)), e = .returned (.slice (some ⟨g, 0, none⟩) n n) ∧ w.heap.size ≤ g ∧ cblk w' g Z ∧ Z.length = n ∧ ∀ j y, j < n → Z[j]? = some y → tz y = lk L wb j) ∧ Below w.heap.size w w' := by
  have HU := hide hu
  have HL := hide hl
  have n0 : (0 : Int) ≤ (n : Int) := Int.natCast_nonneg _
  clear hu hl
  have hmk := make_cx n (by omega) w
  generalize hzz : List.replicate n ((0, 0) : Nat × Nat) = Z0 at hmk
  have HZ := hide hzz
  clear hzz
  go_enter Try.func43, Try.ntmps43
  go_wp2_with fail
  have HG := hide (cblk_new w Z0)
  have HB0 := hide (ba (Below.refl w.heap.size w) (.cells (Z0.map cx).toArray 72))
  clear hmk
  go_loopw [13] (fun s W => ∃ (i : Nat) (Z : List (Nat × Nat)), s = .int .i64 (i : Int) ∧ i ≤ n ∧ cblk W w.heap.size Z ∧ Z.length = n ∧ (∀ j y, j < i → Z[j]? = some y → tz y = lk L wb j) ∧ Below w.heap.size w W) (fun s _ => n - (intOf s).toNat)
  case atStart => exact ⟨0, Z0, rfl, Nat.zero_le _, unhide HG, by rw [← unhide HZ]; simp, fun j y h => absurd h (by omega), unhide HB0⟩
  case round =>
    obtain ⟨i, Z, rfl, hi, hb, hZ, hP, hw⟩ := hrel
    have HB := hide hb
    have HW := hide hw
    have HZL := hide hZ
    have HP := hide hP
    clear hb hw HG HB0 hZ hP
    have i0 : (0 : Int) ≤ (i : Int) := Int.natCast_nonneg _
    by_cases h : i < n
    · have i1 : (i : Int) < (n : Int) := by omega
      have iz : decide ((i : Int) < (n : Int)) = true := decide_eq_true i1
      obtain ⟨x0, x1, x2, e0, e1, e2, rfl, pw, k0, k1, k2⟩ := ((unhide HU).bel (unhide HW)).mass (unhide HL) h
      have HK := hide (lk_at wb e1 e2)
      obtain ⟨z, hz⟩ := zget (unhide HZL) h
      have c0 := (unhide HB).at hz
      have lg := (unhide HB).lt
      have fz := (unhide HB).frozen
      clear pw e0 e1 e2 hz
      go_wp2_with (refine upon_flt (by simp) ?_; intro rr nn hrr)
      go_roundw
      case rel =>
        refine ⟨i + 1, Z.set i (x2, rr), by simp, h, ?_, by simp [unhide HZL], put_at (by rw [unhide HZL]; exact h) (unhide HP) ?_, ?_⟩
        · exact cblk.put (vb.bel (unhide HB) (bel_dn' (ba (Below.refl _ _) _) _)) i x2 rr
        · rw [unhide HK]
          simp [tz, tv, lnk, fm, hrr]
        · repeat (first | exact unhide HW | refine bs ?_ (Nat.le_refl _) | refine bel_dn' ?_ _ | refine ba ?_ _)
      case measure => simp only [intOf]; omega
    · have iz : decide ((i : Int) < (n : Int)) = false := decide_eq_false (by omega)
      have en : i = n := by omega
      subst en
      go_wp2_with fail
      go_ret
      exact ⟨⟨_, Z, rfl, Nat.le_refl _, unhide HB, unhide HZL, unhide HP⟩, unhide HW⟩

theorem mko_pos {x : Nat} (h : mko x = true) : ∃ s m e, FloatKind.f64.format.read x = .number s m e ∧ m ≠ 0 := by
  obtain ⟨s, m, e, hx⟩ := mko_num h
  refine ⟨s, m, e, hx, fun hm => ?_⟩
  subst hm
  unfold mko fin at h
  rw [← order_fv] at h
  have h1 : FloatKind.f64.format.read 4562254508917369340 = .number false 4611686018427388 (-62) := rfl
  have h2 : FloatKind.f64.format.order x 4562254508917369340 = some .lt := by
    simp only [Ieee.Format.order, hx, h1, Ieee.Datum.order, Ieee.signed]
    have e1 : (4611686018427388 : Nat) <<< ((-62 : Int) - min e (-62)).toNat = 4611686018427388 * 2 ^ ((-62 : Int) - min e (-62)).toNat := by rw [Nat.shiftLeft_eq]
    have e2 : 0 < 2 ^ ((-62 : Int) - min e (-62)).toNat := Nat.two_pow_pos _
    simp only [Nat.zero_shiftLeft, e1, Bool.false_eq_true, if_false]
    generalize 2 ^ ((-62 : Int) - min e (-62)).toNat = t at *
    have e3 : (if s = true then -((0 : Nat) : Int) else ((0 : Nat) : Int)) = 0 := by split <;> rfl
    rw [e3]
    congr 1
    rw [Int.compare_eq_lt]
    have : 0 < 4611686018427388 * t := Nat.mul_pos (by omega) e2
    omega
  rw [h2] at h
  simp at h
theorem mul_pos_some {r x : Nat} (hr : Fv .f64 r = some r) (hx : mko x = true) : ∃ q, floatBits .mul .f64 r x = some q := by
  obtain ⟨s, m, e, h1, h2⟩ := mko_pos hx
  cases hd : FloatKind.f64.format.read r with
  | number a b c => exact mul_num ⟨a, b, c, hd⟩ ⟨s, m, e, h1⟩
  | infinity a =>
    simp only [floatBits, Ieee.Format.mul, h1, hd, Ieee.Datum.product]
    rw [if_neg h2]
    exact ⟨_, rfl⟩
  | nan a b =>
    unfold Fv at hr
    rw [hd] at hr
    cases hr

set_option maxHeartbeats 2000000 in
theorem dragsP (u : Option Addr) (p po n c gl cl : Nat) (L : List Nat) (wb : Nat) (ZL : List (Nat × Nat)) (w : World) (hl : L.length = n * 3) (hn : n ≤ 20) (hu : Fls .f64 w u p po L) (hw : pls wb = true) (hm : (List.range n).all (msOk L) = true)
    (hg : cblk w gl ZL) (hzl : ZL.length = n) (hzv : ∀ j y, j < n → ZL[j]? = some y → tz y = lk L wb j) :
    Calls Try.prog 44 #[.slice u n c, .slice (some ⟨gl, 0, none⟩) n cl, .float .f64 wb] w fun e w' => (∃ (g : Nat) (Z : List (Nat × Nat)), e = .returned (.slice (some ⟨g, 0, none⟩) n n) ∧ w.heap.size ≤ g ∧ cblk w' g Z ∧ Z.length = n ∧ ∀ j y, j < n → Z[j]? = some y → tz y = drg L wb j) ∧ Below w.heap.size w w' := by
  have HU := hide hu
  have HL := hide hl
  have HWB := hide hw
  have HMA := hide hm
  have HGL := hide hg
  have HZZ := hide hzl
  have HZV := hide hzv
  have n0 : (0 : Int) ≤ (n : Int) := Int.natCast_nonneg _
  clear hu hl hw hm hg hzl hzv
  have hmk := make_cx n (by omega) w
  generalize hzz : List.replicate n ((0, 0) : Nat × Nat) = Z0 at hmk
  have HZ := hide hzz
  clear hzz
  obtain ⟨r1, hr1⟩ := mul_num (pls_num (unhide HWB)) (pls_num (unhide HWB))
  obtain ⟨hq1, hv1⟩ := quiet_flt (P := Try.prog) hr1 28
  have HQ1 := hide hq1
  have HV1 := hide hv1
  have HR1 := hide (bits_num hr1).2.2
  clear hq1 hv1 hr1
  go_enter Try.func44, Try.ntmps44
  go_wp2_with fail
  have HG := hide (cblk_new w Z0)
  have HB0 := hide (ba (Below.refl w.heap.size w) (.cells (Z0.map cx).toArray 72))
  clear hmk
  go_loopw [17] (fun s W => ∃ (i : Nat) (Z : List (Nat × Nat)), s = .int .i64 (i : Int) ∧ i ≤ n ∧ cblk W w.heap.size Z ∧ Z.length = n ∧ (∀ j y, j < i → Z[j]? = some y → tz y = drg L wb j) ∧ Below w.heap.size w W) (fun s _ => n - (intOf s).toNat)
  case atStart => exact ⟨0, Z0, rfl, Nat.zero_le _, unhide HG, by rw [← unhide HZ]; simp, fun j y h => absurd h (by omega), unhide HB0⟩
  case round =>
    obtain ⟨i, Z, rfl, hi, hb, hZ, hP, hw⟩ := hrel
    have HB := hide hb
    have HW := hide hw
    have HZL := hide hZ
    have HP := hide hP
    clear hb hw HG HB0 hZ hP
    have i0 : (0 : Int) ≤ (i : Int) := Int.natCast_nonneg _
    by_cases h : i < n
    · have i1 : (i : Int) < (n : Int) := by omega
      have iz : decide ((i : Int) < (n : Int)) = true := decide_eq_true i1
      obtain ⟨x0, x1, x2, e0, e1, e2, rfl, pw, k0, k1, k2⟩ := ((unhide HU).bel (unhide HW)).mass (unhide HL) h
      have HK := hide (ow_at wb e0)
      have hmo : mko x0 = true := by
        have h1 := List.all_eq_true.1 (unhide HMA) i (by simpa using h)
        rw [msOk_at e0 e1 e2] at h1
        unfold ms3 at h1
        simp only [Bool.and_eq_true] at h1
        exact h1.1.1
      obtain ⟨r2, hr2⟩ := mul_pos_some (unhide HR1) hmo
      obtain ⟨hq2, hv2⟩ := quiet_flt (P := Try.prog) hr2 28
      have HQ2 := hide hq2
      have HV2 := hide hv2
      obtain ⟨zl, hzl⟩ := zget (unhide HZZ) h
      have HLK := hide (unhide HZV i zl h hzl)
      have cl0 := ((unhide HGL).bel (unhide HW) : vb _ _ _ _)
      have cl1 := cblk.at cl0 hzl
      have lgl := cell_lt cl1
      clear hq2 hv2 hr2 hmo pw e0 e1 e2 hzl cl0
      go_wp2_with fail
      refine Go.Code.wp_mono (Only.to (fun _ _ h => h)) (dr5 (r1 := r1) (r2 := r2) (x0 := x0) (l0 := zl.1) (l1 := zl.2) (unhide HQ1 |> hide) (unhide HQ2 |> hide) (hide fun W => rfl) (hide (by simp [go_sem])) (hide (ka cl1)) (hide h) ?_)
      intro W1 hb1
      have HW1 := hide (bc (ba (unhide HW) _) hb1)
      have HB1 : Hid (cblk W1 w.heap.size Z) := hide (vb.bel (vb.bel (unhide HB) (ba (Below.refl _ _) _)) hb1)
      have cl2 := keep1 hb1 (ka cl1)
      have HOW : Hid (tv (Op.negFloat .f64 r2) 0 = ow L wb i) := hide (by rw [unhide HK]; unfold tv own_; rw [fv_neg, unhide HV2, unhide HV1]; rfl)
      clear hb1 cl1 lgl k0 k1 k2 HB HW
      by_cases hz0 : i = 0
      · subst hz0
        obtain ⟨z, hz⟩ := zget (unhide HZL) h
        have c0 := (unhide HB1).at hz
        have lg := (unhide HB1).lt
        have fz := (unhide HB1).frozen
        have t0 : decide ((0 : Int) < 0) = false := rfl
        clear hz
        go_wp2_with (refine upon_cadd ?_; intro ra rb nn hra hrb)
        go_roundw
        case rel =>
          refine ⟨0 + 1, Z.set 0 (ra, rb), by simp, h, ?_, by simp [unhide HZL], put_at (by rw [unhide HZL]; exact h) (unhide HP) ?_, ?_⟩
          · exact cblk.put (vb.bel (unhide HB1) (bel_dn' (Below.refl _ _) _)) 0 ra rb
          · unfold drg
            rw [← unhide HOW, ← unhide HLK]
            simp [tz, tv, tadd, fa, hra, hrb]
          · repeat (first | exact unhide HW1 | refine bs ?_ (Nat.le_refl _) | refine bel_dn' ?_ _ | refine ba ?_ _)
        case measure => simp only [intOf]; omega
      · obtain ⟨j, rfl⟩ : ∃ j, i = j + 1 := ⟨i - 1, by omega⟩
        have t0 : decide ((0 : Int) < ((j + 1 : Nat) : Int)) = true := decide_eq_true (by omega)
        have wj : IntKind.i64.wrap (((j + 1 : Nat) : Int) - 1) = (j : Int) := by rw [show ((j + 1 : Nat) : Int) - 1 = (j : Int) by omega]; exact wrap_i (by omega) (by omega)
        obtain ⟨zd, hzd⟩ := zget (unhide HZL) (show j < n by omega)
        have HDJ := hide (unhide HP j zd (by omega) hzd)
        have cd := (unhide HB1).at hzd
        clear hzd
        go_wp2_with fail
        refine Go.Code.wp_mono (Only.to (fun _ _ h => h)) (dr7 (j := j) (l0 := zl.1) (l1 := zl.2) (d0 := zd.1) (d1 := zd.2) (Tm := tmul (lk L wb (j + 1)) (drg L wb j)) (Ta_ := tadd (drg L wb j) (lk L wb (j + 1))) (Tb := tshare (tmul (lk L wb (j + 1)) (drg L wb j)) (tadd (drg L wb j) (lk L wb (j + 1))))
          (hide (by rw [← unhide HLK, ← unhide HDJ]; rfl)) (hide cl2) (hide cd) (hide h) (hide wj) (hide (by omega))
          (hide fun Xw _ => (mulP _ _ _ _ Xw).mono fun e w' ⟨⟨re, im, h1, h2⟩, h3⟩ => ⟨⟨re, im, h1, by rw [h2, ← unhide HLK, ← unhide HDJ]; rfl⟩, h3.bel⟩)
          (hide wj) (hide (by omega)) (hide h)
          (hide fun re9 im9 h9 rea ima ha Xw _ => (byP _ _ _ _ Xw).mono fun e w' ⟨⟨re, im, h1, h2⟩, h3⟩ => ⟨⟨re, im, h1, by rw [h2, h9, ha]⟩, h3.bel⟩) ?_)
        intro re9 im9 rea ima reb imb W2 hb2 _ _ hbb
        have HW2 := hide (bc (unhide HW1) hb2)
        have HB2 : Hid (cblk W2 w.heap.size Z) := hide (vb.bel (unhide HB1) hb2)
        have HBB := hide hbb
        obtain ⟨z, hz⟩ := zget (unhide HZL) h
        have c0 := (unhide HB2).at hz
        have lg := (unhide HB2).lt
        have fz := (unhide HB2).frozen
        clear hz hbb hb2 HB1 HW1 cl2 cd
        go_wp2_with (refine upon_cadd ?_; intro ra rb nn hra hrb)
        go_roundw
        case rel =>
          refine ⟨j + 1 + 1, Z.set (j + 1) (ra, rb), by simp, h, ?_, by simp [unhide HZL], put_at (by rw [unhide HZL]; exact h) (unhide HP) ?_, ?_⟩
          · exact cblk.put (vb.bel (unhide HB2) (bel_dn' (Below.refl _ _) _)) (j + 1) ra rb
          · unfold drg
            rw [← unhide HOW, ← unhide HBB]
            simp [tz, tv, tadd, fa, hra, hrb]
          · repeat (first | exact unhide HW2 | refine bs ?_ (Nat.le_refl _) | refine bel_dn' ?_ _ | refine ba ?_ _)
        case measure => simp only [intOf]; omega
    · have iz : decide ((i : Int) < (n : Int)) = false := decide_eq_false (by omega)
      have en : i = n := by omega
      subst en
      go_wp2_with fail
      go_ret
      exact ⟨⟨_, Z, rfl, Nat.le_refl _, unhide HB, unhide HZL, unhide HP⟩, unhide HW⟩

theorem swf_succ (L : List Nat) (wb m d : Nat) : swf L wb m (d + 1) = tshare (tmul (lk L wb (m - d)) (swf L wb m d)) (tadd (drg L wb (m - d - 1)) (lk L wb (m - d))) := rfl
/-- numbers put down from behind -/
theorem back2 (F : List (Option Nat)) (R : List Nat) (i n : Nat) (a b : Nat) (A B : Option Nat) (hR : R.length = n * 2) (hi : i < n) (hF : (R.drop ((i + 1) * 2)).map (Fv .f64) = F) (ha : Fv .f64 a = A) (hb : Fv .f64 b = B) :
    (((R.set (i * 2) a).set (i * 2 + 1) b).drop (i * 2)).map (Fv .f64) = A :: B :: F := by
  have e : ((R.set (i * 2) a).set (i * 2 + 1) b).drop (i * 2) = a :: b :: R.drop ((i + 1) * 2) := by
    apply List.ext_getElem?
    intro j
    rw [List.getElem?_drop]
    match j with
    | 0 =>
      show ((R.set (i * 2) a).set (i * 2 + 1) b)[i * 2]? = _
      rw [List.getElem?_set_ne (by omega), List.getElem?_set_self (by omega)]
      rfl
    | 1 =>
      rw [List.getElem?_set_self (by rw [List.length_set]; omega)]
      rfl
    | j + 2 =>
      rw [List.getElem?_set_ne (by omega), List.getElem?_set_ne (by omega)]
      simp only [List.getElem?_cons_succ, List.getElem?_drop]
      congr 1
      omega
  rw [e]
  simp [hF, ha, hb]
set_option maxHeartbeats 2000000 in
theorem swaysP (gl cl gg cg n m : Nat) (L : List Nat) (wb : Nat) (ZL ZG : List (Nat × Nat)) (w : World) (hnm : n = m + 1) (hn : n ≤ 20)
    (hg : cblk w gl ZL) (hzl : ZL.length = n) (hzv : ∀ j y, j < n → ZL[j]? = some y → tz y = lk L wb j)
    (hd : cblk w gg ZG) (hdl : ZG.length = n) (hdv : ∀ j y, j < n → ZG[j]? = some y → tz y = drg L wb j) (hz : tzero (drg L wb m) = false) :
    Calls Try.prog 45 #[.slice (some ⟨gl, 0, none⟩) n cl, .slice (some ⟨gg, 0, none⟩) n cg] w fun e w' => (∃ v, e = .returned v ∧ FAns .f64 w' w.heap.size 33 2 v n (sfx L wb m n)) ∧ Below w.heap.size w w' := by
  have HGL := hide hg
  have HZZ := hide hzl
  have HZV := hide hzv
  have HGG := hide hd
  have HDL := hide hdl
  have HDV := hide hdv
  have HZR := hide hz
  have hmk := make_flts (fk := .f64) (P := Try.prog) 25 33 2 16 n Try.underlying25 (.agg #[.float .f64 0, .float .f64 0]) (by rfl) (by omega) tone_info (by omega) (by omega) w
  generalize hzz : fzeros (n * 2) = Z at hmk
  have HZ := hide hzz
  clear hzz
  have m0 : (0 : Int) ≤ (m : Int) := Int.natCast_nonneg _
  have w1 : IntKind.i64.wrap ((n : Int) - 1) = (m : Int) := by rw [show (n : Int) - 1 = (m : Int) by omega]; exact wrap_i (by omega) (by omega)
  have mlt : (m : Int) < (n : Int) := by omega
  have mltn : m < n := by omega
  obtain ⟨zd, hzd⟩ := zget (unhide HDL) mltn
  have HDM := hide (unhide HDV m zd (by omega) hzd)
  have cd := (unhide HGG).at hzd
  have ld := cell_lt cd
  have HNM := hide hnm
  clear hzd hg hzl hzv hd hdl hdv hz hnm
  go_enter Try.func45, Try.ntmps45
  go_wp2_with fail
  have HG := hide (fblk_new (fk := .f64) w 33 Z)
  have HB0 := hide (ba (Below.refl w.heap.size w) (.cells (Z.map (Value.float .f64)).toArray 33))
  refine (byP _ _ _ _ _).mono ?_
  rintro e W1 ⟨⟨ra, rb, rfl, hv⟩, hs⟩
  have HV : Hid (tv ra rb = swf L wb m 0) := hide (by rw [hv]; unfold tshare swf; rw [show tv zd.1 zd.2 = drg L wb m from unhide HDM, unhide HZR]; rfl)
  have HG1 := hide ((unhide HG).bel hs.bel)
  have HB1 := hide ((unhide HB0).trans hs.bel)
  clear hmk hv hs HG HB0 cd
  go_wp2_with fail
  refine (toneP _ _ _).mono ?_
  rintro e W2 ⟨rfl, hb⟩
  have HG2 := hide ((unhide HG1).bel hb)
  have HB2 := hide (bc (unhide HB1) hb)
  have HZn : Hid (Z.length = n * 2) := hide (by rw [← unhide HZ]; simp [fzeros])
  obtain ⟨y0, e0⟩ := fat_of (f := 0) (unhide HZn) mltn (by omega)
  obtain ⟨y1, e1⟩ := fat_of (f := 1) (unhide HZn) mltn (by omega)
  have c0 : W2.cell? ⟨w.heap.size, m * 2, none⟩ = some (.float .f64 y0) := (unhide HG2).cell e0
  have c1 : W2.cell? ⟨w.heap.size, m * 2 + 1, none⟩ = some (.float .f64 y1) := (unhide HG2).cell e1
  have fz := (unhide HG2).frozen
  have lg := (unhide HG2).lt
  clear hb HG1 HB1 e0 e1
  go_wp2_with fail
  have HG3 := hide (((unhide HG2).set (m * 2) ra).set (m * 2 + 1) rb)
  have HB3 := hide (bs (v := .float .f64 rb) (o := m * 2 + 1) (bs (v := .float .f64 ra) (o := m * 2) (unhide HB2) (Nat.le_refl _)) (Nat.le_refl _))
  go_loopw [7, 8] (fun s t W => ∃ (d a b : Nat) (R : List Nat), s = .complex .f64 a b ∧ t = .int .i64 ((m : Int) - 1 - (d : Int)) ∧ d ≤ m ∧ tv a b = swf L wb m d ∧ R.length = n * 2 ∧ fblk .f64 W w.heap.size 33 R ∧ (R.drop ((m - d) * 2)).map (Fv .f64) = sfx L wb m (d + 1) ∧ Below w.heap.size w W) (fun _ s _ => ((intOf s) + 1).toNat)
  case atStart =>
    refine ⟨0, ra, rb, _, rfl, by simp [go_sem], Nat.zero_le _, unhide HV, by simp [unhide HZn], unhide HG3, ?_, unhide HB3⟩
    have := unhide HV
    exact back2 [] Z m n ra rb _ _ (unhide HZn) mltn (by rw [List.drop_eq_nil_of_le (by rw [unhide HZn, unhide HNM]; omega)]; rfl) (congrArg Prod.fst this) (congrArg Prod.snd this)
  case round =>
    obtain ⟨d, a, b, R, rfl, rfl, hdm, hv, hR, hg, hF, hw⟩ := hrel
    have HV2 := hide hv
    have HR := hide hR
    have HGR := hide hg
    have HF := hide hF
    have HW := hide hw
    clear hv hR hg hF hw HG2 HB2 HG3 HB3 HV c0 c1 fz lg
    by_cases hd : d < m
    · obtain ⟨i, hi⟩ : ∃ i, i = m - 1 - d := ⟨_, rfl⟩
      obtain ⟨q, hq⟩ : ∃ q, q = m - d := ⟨_, rfl⟩
      have iI : (m : Int) - 1 - (d : Int) = (i : Int) := by omega
      rw [iI]
      have HI := hide hi
      have HQ := hide hq
      have iq : i + 1 = q := by omega
      have HIQ := hide iq
      have i0 : (0 : Int) ≤ (i : Int) := Int.natCast_nonneg _
      have hin : i < n := by omega
      have hqn : q < n := by have := unhide HNM; omega
      have i1 : (i : Int) < (n : Int) := by omega
      have iz : decide ((0 : Int) ≤ (i : Int)) = true := decide_eq_true i0
      have wq : IntKind.i64.wrap ((i : Int) + 1) = (q : Int) := by rw [show (i : Int) + 1 = (q : Int) by omega]; exact wrap_i (by omega) (by omega)
      have wm1 : IntKind.i64.wrap ((i : Int) - 1) = (i : Int) - 1 := wrap_i (by omega) (by omega)
      obtain ⟨zl, hzl⟩ := zget (unhide HZZ) hqn
      obtain ⟨zg, hzg⟩ := zget (unhide HDL) hin
      have HLK := hide (unhide HZV q zl hqn hzl)
      have HDK := hide (unhide HDV i zg hin hzg)
      have cl1 := cblk.at (vb.bel (unhide HGL) (unhide HW)) hzl
      have cg1 := cblk.at (vb.bel (unhide HGG) (unhide HW)) hzg
      clear hi hq iI iq hzl hzg
      go_wp2_with fail
      refine Go.Code.wp_mono (Only.to (fun _ _ h => h)) (sy8 (q := q) (l0 := zl.1) (l1 := zl.2) (d0 := zg.1) (d1 := zg.2) (Tm := tmul (lk L wb q) (swf L wb m d)) (Ta_ := tadd (drg L wb i) (lk L wb q)) (Tb := tshare (tmul (lk L wb q) (swf L wb m d)) (tadd (drg L wb i) (lk L wb q)))
        (hide (by rw [← unhide HLK, ← unhide HDK]; rfl)) (hide cl1) (hide cg1) (hide wq) (hide hqn)
        (hide fun Xw _ => (mulP _ _ _ _ Xw).mono fun e w' ⟨⟨re, im, h1, h2⟩, h3⟩ => ⟨⟨re, im, h1, by rw [h2, ← unhide HLK, ← unhide HV2]; rfl⟩, h3.bel⟩)
        (hide hin) (hide wq) (hide hqn)
        (hide fun re9 im9 h9 rea ima ha Xw _ => (byP _ _ _ _ Xw).mono fun e w' ⟨⟨re, im, h1, h2⟩, h3⟩ => ⟨⟨re, im, h1, by rw [h2, h9, ha]⟩, h3.bel⟩) ?_)
      intro re9 im9 rea ima reb imb W4 hb4 _ _ hbb
      have HBB : Hid (tv reb imb = swf L wb m (d + 1)) := hide (by rw [hbb, swf_succ, show m - d = q from (unhide HQ).symm, show q - 1 = i by have := unhide HIQ; omega])
      have HW4 := hide (bc (unhide HW) hb4)
      have HGR4 := hide ((unhide HGR).bel hb4)
      clear hbb hb4 cl1 cg1
      go_wp2_with fail
      refine (toneP _ _ _).mono ?_
      rintro e W5 ⟨rfl, hb⟩
      have HG5 := hide ((unhide HGR4).bel hb)
      have HW5 := hide (bc (unhide HW4) hb)
      obtain ⟨y0, e0⟩ := fat_of (f := 0) (unhide HR) hin (by omega)
      obtain ⟨y1, e1⟩ := fat_of (f := 1) (unhide HR) hin (by omega)
      have c0 : W5.cell? ⟨w.heap.size, i * 2, none⟩ = some (.float .f64 y0) := (unhide HG5).cell e0
      have c1 : W5.cell? ⟨w.heap.size, i * 2 + 1, none⟩ = some (.float .f64 y1) := (unhide HG5).cell e1
      have fz := (unhide HG5).frozen
      have lg := (unhide HG5).lt
      clear hb e0 e1 HGR4 HW4
      go_wp2_with fail
      go_roundw
      case rel =>
        have hi := unhide HI
        refine ⟨d + 1, reb, imb, (R.set (i * 2) reb).set (i * 2 + 1) imb, rfl, ?_, hd, unhide HBB, by simp [unhide HR], ((unhide HG5).set (i * 2) reb).set (i * 2 + 1) imb, ?_, bs (bs (unhide HW5) (Nat.le_refl _)) (Nat.le_refl _)⟩
        · simp only [Value.int.injEq, true_and]
          omega
        · have hv := unhide HBB
          rw [show m - (d + 1) = i by omega]
          have hF := unhide HF
          rw [show m - d = i + 1 by omega] at hF
          exact back2 _ R i n reb imb _ _ (unhide HR) hin hF (congrArg Prod.fst hv) (congrArg Prod.snd hv)
      case measure => simp only [intOf]; omega
    · have dm : d = m := by omega
      subst dm
      have iI : (d : Int) - 1 - (d : Int) = -1 := by omega
      rw [iI]
      have iz : decide ((0 : Int) ≤ -1) = false := rfl
      clear iI
      go_wp2_with fail
      go_ret
      refine ⟨⟨_, rfl, R, ?_, ?_⟩, unhide HW⟩
      · exact ⟨by rw [List.length_map]; exact unhide HR, .inr ⟨_, n, (R.map (Value.float .f64)).toArray, rfl, Nat.le_refl _, unhide HGR, Nat.le_refl _, by unfold maxLen; omega, by simp [unhide HR], by rw [List.take_of_length_le (by simp [unhide HR])]⟩⟩
      · have hF := unhide HF
        rw [Nat.sub_self, Nat.zero_mul, List.drop_zero, ← unhide HNM] at hF
        exact hF

/-- the code of a sway, how many tones it tells, and which -/
def swC (n : Nat) (L : List Nat) (wb : Nat) : Int := if 4096 < n then 2 else if swOk n L wb then (if tzero (drg L wb (n - 1)) then 11 else 0) else 1
def swN (n : Nat) (L : List Nat) (wb : Nat) : Nat := if swC n L wb = 0 then n else 0
def swF (n : Nat) (L : List Nat) (wb : Nat) : List (Option Nat) := if swC n L wb = 0 then sfx L wb (n - 1) n else []
theorem swC_long {n : Nat} {L : List Nat} {wb : Nat} (h : 4096 < n) : swC n L wb = 2 := by unfold swC; rw [if_pos h]
theorem swC_bad {n : Nat} {L : List Nat} {wb : Nat} (h : ¬ 4096 < n) (h2 : swOk n L wb = false) : swC n L wb = 1 := by unfold swC; rw [if_neg h, h2]; rfl
theorem swC_zero {n : Nat} {L : List Nat} {wb : Nat} (h : ¬ 4096 < n) (h2 : swOk n L wb = true) (h3 : tzero (drg L wb (n - 1)) = true) : swC n L wb = 11 := by unfold swC; rw [if_neg h, h2, h3]; rfl
theorem swC_ok {n : Nat} {L : List Nat} {wb : Nat} (h : ¬ 4096 < n) (h2 : swOk n L wb = true) (h3 : tzero (drg L wb (n - 1)) = false) : swC n L wb = 0 := by unfold swC; rw [if_neg h, h2, h3]; rfl
theorem fnil {fk : FloatKind} {w : World} {B t k : Nat} : FAns fk w B t k (.slice none 0 0) 0 [] := ⟨[], own_nil w t B k, rfl⟩
theorem sw_none {n : Nat} {L : List Nat} {wb : Nat} {w : World} {B : Nat} {v : Value} (h : swC n L wb ≠ 0) (hv : FAns .f64 w B 33 2 v 0 []) : FAns .f64 w B 33 2 v (swN n L wb) (swF n L wb) := by
  unfold swN swF
  rw [if_neg h, if_neg h]
  exact hv
theorem sw_some {n : Nat} {L : List Nat} {wb : Nat} {w : World} {B : Nat} {v : Value} (h : swC n L wb = 0) (hv : FAns .f64 w B 33 2 v n (sfx L wb (n - 1) n)) : FAns .f64 w B 33 2 v (swN n L wb) (swF n L wb) := by
  unfold swN swF
  rw [if_pos h, if_pos h]
  exact hv
set_option maxHeartbeats 2000000 in
theorem swayP_any (u : Option Addr) (p po n c : Nat) (L : List Nat) (wb : Nat) (w : World) (hl : L.length = n * 3) (hn : n ≤ 9223372036854775807) (hu : Fls .f64 w u p po L) :
    Calls Try.prog 10 #[.slice u n c, .float .f64 wb] w fun e w' => (∃ v, e = .returned (.tuple #[v, .int .i64 (swC n L wb)]) ∧ FAns .f64 w' w.heap.size 33 2 v (swN n L wb) (swF n L wb)) ∧ Below w.heap.size w w' := by
  have HU := hide hu
  have HL := hide hl
  have n0 : (0 : Int) ≤ (n : Int) := Int.natCast_nonneg _
  clear hu hl
  by_cases h1 : 4096 < n
  · have t1 : decide ((4096 : Int) < (n : Int)) = true := decide_eq_true (by omega)
    have hc := swC_long (L := L) (wb := wb) h1
    rw [hc]
    go_enter Try.func10, Try.ntmps10
    go_wp2_with fail
    exact bodyPost_ret (v := .tuple #[.slice none 0 0, .int .i64 2]) (by simp [results, Try.results10, go_sem]) rfl ⟨⟨_, rfl, sw_none (by rw [hc]; omega) fnil⟩, Below.refl _ _⟩
  · have t1 : decide ((4096 : Int) < (n : Int)) = false := decide_eq_false (by omega)
    by_cases h2 : 1 ≤ n ∧ n ≤ 20
    · have hb1 : (decide ((1 : Int) ≤ (n : Int)) && decide ((n : Int) ≤ 20)) = true := by rw [decide_eq_true (by omega), decide_eq_true (by omega)]; rfl
      have HC := hide (cnm_any u p po n c L w (unhide HL) (by omega) (unhide HU))
      cases hm : (List.range n).all (msOk L) with
      | false =>
        have hc := swC_bad (L := L) (wb := wb) h1 (by unfold swOk; rw [hm]; simp)
        rw [hc]
        have HC9 := hide hc
        clear hc
        rw [hm] at HC
        go_enter Try.func10, Try.ntmps10
        go_wp2_with fail
        refine (bti_any _ _ _ _).mono ?_
        rintro e w' ⟨rfl, rfl⟩
        rw [hb1]
        go_wp2_with fail
        refine (unhide HC).mono ?_
        rintro e W1 ⟨rfl, hb⟩
        have HB := hide hb
        clear hb
        go_wp2_with fail
        exact bodyPost_ret (v := .tuple #[.slice none 0 0, .int .i64 1]) (by simp [results, Try.results10, go_sem]) rfl ⟨⟨_, rfl, sw_none (by rw [unhide HC9]; omega) fnil⟩, unhide HB⟩
      | true =>
        have HMA := hide hm
        rw [hm] at HC
        cases hp : pls wb with
        | false =>
          have hc := swC_bad (L := L) (wb := wb) h1 (by unfold swOk; rw [hp]; simp)
          rw [hc]
          have HC9 := hide hc
          clear hc
          go_enter Try.func10, Try.ntmps10
          go_wp2_with fail
          refine (bti_any _ _ _ _).mono ?_
          rintro e w' ⟨rfl, rfl⟩
          rw [hb1]
          go_wp2_with fail
          refine (unhide HC).mono ?_
          rintro e W1 ⟨rfl, hb⟩
          have HB := hide hb
          clear hb
          go_wp2_with fail
          refine (wrp_any wb _).mono ?_
          rintro e w2 ⟨rfl, rfl⟩
          rw [hp]
          go_wp2_with fail
          exact bodyPost_ret (v := .tuple #[.slice none 0 0, .int .i64 1]) (by simp [results, Try.results10, go_sem]) rfl ⟨⟨_, rfl, sw_none (by rw [unhide HC9]; omega) fnil⟩, unhide HB⟩
        | true =>
          have HP := hide hp
          have ok : swOk n L wb = true := by unfold swOk; rw [hm, hp, decide_eq_true h2.1, decide_eq_true h2.2]; rfl
          have HOK := hide ok
          obtain ⟨m, hnm⟩ : ∃ m, n = m + 1 := ⟨n - 1, by omega⟩
          have HNM := hide hnm
          have hmn : m < n := by omega
          have HZT : Hid (∀ z : Nat × Nat, tz z = drg L wb m → ((FloatKind.f64.format.order z.1 0 == some .eq) && (FloatKind.f64.format.order z.2 0 == some .eq)) = tzero (drg L wb m)) := hide fun z hz => by rw [← hz, order_fv, order_fv, fv0]; rfl
          have w1 : IntKind.i64.wrap ((n : Int) - 1) = (m : Int) := by rw [show (n : Int) - 1 = (m : Int) by omega]; exact wrap_i (by omega) (by omega)
          have m0 : (0 : Int) ≤ (m : Int) := Int.natCast_nonneg _
          have mlt : (m : Int) < (n : Int) := by omega
          have n20 : n ≤ 20 := h2.2
          have HH1 := hide h1
          clear ok hnm hm h2 h1
          go_enter Try.func10, Try.ntmps10
          go_wp2_with fail
          refine (bti_any _ _ _ _).mono ?_
          rintro e w' ⟨rfl, rfl⟩
          rw [hb1]
          go_wp2_with fail
          refine (unhide HC).mono ?_
          rintro e W1 ⟨rfl, hb⟩
          have HW1 := hide hb
          clear hb HC
          go_wp2_with fail
          refine (wrp_any wb _).mono ?_
          rintro e w2 ⟨rfl, rfl⟩
          rw [hp]
          clear hp
          go_wp2_with fail
          refine (linksP u p po n c L wb _ (unhide HL) n20 ((unhide HU).bel (unhide HW1))).mono ?_
          rintro e W3 ⟨⟨gl, ZL, rfl, hgl, hcl, hzl, hzv⟩, hb⟩
          have HW3 := hide (bc (unhide HW1) hb)
          have HCL := hide hcl
          have HZL := hide hzl
          have HZV := hide hzv
          clear hgl hcl hzl hzv hb HW1
          go_wp2_with fail
          refine (dragsP u p po n c gl n L wb ZL _ (unhide HL) n20 ((unhide HU).bel (unhide HW3)) (unhide HP) (unhide HMA) (unhide HCL) (unhide HZL) (unhide HZV)).mono ?_
          rintro e W4 ⟨⟨gg, ZG, rfl, hgg, hcg, hgl, hgv⟩, hb⟩
          have HW4 := hide (bc (unhide HW3) hb)
          have HCL4 : Hid (cblk W4 gl ZL) := hide (vb.bel (unhide HCL) hb)
          have HCG := hide hcg
          have HGL := hide hgl
          have HGV := hide hgv
          obtain ⟨zd, hzd⟩ := zget hgl hmn
          have HDM := hide (hgv m zd hmn hzd)
          have cd := cblk.at hcg hzd
          have ld := cell_lt cd
          have hzt := unhide HZT zd (unhide HDM)
          clear hgg hcg hgl hgv hb hzd HCL HW3
          cases hz : tzero (drg L wb m) with
          | true =>
            rw [hz] at hzt
            have hc := swC_zero (unhide HH1) (unhide HOK) (by rw [show n - 1 = m by have := unhide HNM; omega]; exact hz)
            have HC9 := hide hc
            clear hc hz
            go_wp2_with fail
            exact bodyPost_ret (v := .tuple #[.slice none 0 0, .int .i64 11]) (by simp [results, Try.results10, go_sem]) rfl ⟨⟨.slice none 0 0, by rw [unhide HC9], sw_none (by rw [unhide HC9]; omega) fnil⟩, unhide HW4⟩
          | false =>
            rw [hz] at hzt
            have hc := swC_ok (unhide HH1) (unhide HOK) (by rw [show n - 1 = m by have := unhide HNM; omega]; exact hz)
            have HC9 := hide hc
            have HZ9 := hide hz
            clear hc hz
            go_wp2_with fail
            refine (swaysP gl n gg n n m L wb ZL ZG _ (unhide HNM) n20 (unhide HCL4) (unhide HZL) (unhide HZV) (unhide HCG) (unhide HGL) (unhide HGV) (unhide HZ9)).mono ?_
            rintro e W5 ⟨⟨v, rfl, hv⟩, hb⟩
            have HV := hide hv
            have HB := hide hb
            clear hv hb
            go_wp2_with fail
            refine bodyPost_ret (v := .tuple #[v, .int .i64 0]) (by simp [results, Try.results10, go_sem]) rfl ⟨⟨v, by rw [unhide HC9], sw_some (unhide HC9) ?_⟩, bc (unhide HW4) (unhide HB)⟩
            obtain ⟨R, hr, hF⟩ := unhide HV
            rw [show n - 1 = m by have := unhide HNM; omega]
            exact ⟨R, hr.mono (unhide HW4).size, hF⟩
    · have hb1 : (decide ((1 : Int) ≤ (n : Int)) && decide ((n : Int) ≤ 20)) = false := by
        by_cases h3 : 1 ≤ n
        · rw [decide_eq_false (p := (n : Int) ≤ 20) (by omega), Bool.and_false]
        · rw [decide_eq_false (p := (1 : Int) ≤ (n : Int)) (by omega)]; rfl
      have hc := swC_bad (L := L) (wb := wb) h1 (by
        unfold swOk
        by_cases h3 : 1 ≤ n
        · rw [decide_eq_false (p := n ≤ 20) (by omega)]; simp
        · rw [decide_eq_false (p := 1 ≤ n) (by omega)]; simp)
      rw [hc]
      have HC9 := hide hc
      clear hc
      go_enter Try.func10, Try.ntmps10
      go_wp2_with fail
      refine (bti_any _ _ _ _).mono ?_
      rintro e w' ⟨rfl, rfl⟩
      rw [hb1]
      go_wp2_with fail
      exact bodyPost_ret (v := .tuple #[.slice none 0 0, .int .i64 1]) (by simp [results, Try.results10, go_sem]) rfl ⟨⟨_, rfl, sw_none (by rw [unhide HC9]; omega) fnil⟩, Below.refl _ _⟩
end Go.Proofs.Ytgocgcnpgmamiaa
