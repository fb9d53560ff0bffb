/-
  The model's way through points.
-/
import Derived.Test.YtdneepojgklciaaPrP
import Derived.Test.YtdneepojgklciaaBbk
namespace Go.Proofs.Ytdneepojgklciaa
open Go.ChangeShapes Go.WideShapes Go.ChangeAt Go.RowKit
set_option linter.unusedVariables false
set_option linter.unusedSimpArgs false

def encO : Option Nat → Int
  | none => -1
  | some b => (b : Int)
def farO (g : Nat → Int) : Option Nat → Int
  | none => 0
  | some b => g b
/-- what was told, as flags -/
def flg (n : Nat) (out : List Nat) : List Bool := (List.range n).map fun i => out.contains i
theorem flg_at {n i : Nat} (out : List Nat) (h : i < n) : (flg n out)[i]? = some (out.contains i) := by simp [flg, h]
theorem flg_set (n : Nat) (out : List Nat) (b : Nat) : (flg n out).set b true = flg n (out ++ [b]) := by
  apply List.ext_getElem?
  intro j
  by_cases hj : j < n
  · rw [flg_at _ hj, List.getElem?_set]
    by_cases hb : b = j
    · subst hb
      simp [flg, hj]
    · rw [if_neg hb, flg_at _ hj]
      have : ¬ j = b := fun e => hb e.symm
      by_cases h2 : j ∈ out <;> simp [this, h2]
  · have l1 : ((flg n out).set b true).length = n := by simp [flg]
    have l2 : (flg n (out ++ [b])).length = n := by simp [flg]
    rw [List.getElem?_eq_none (by omega), List.getElem?_eq_none (by omega)]
theorem flg_nil (n : Nat) : flg n [] = List.replicate n false := by
  apply List.ext_getElem?
  intro j
  by_cases hj : j < n
  · rw [flg_at _ hj]; simp [hj]
  · rw [List.getElem?_eq_none (by simp [flg]; omega), List.getElem?_eq_none (by simp; omega)]
theorem bool_info : (Try.prog.info? 4).map (fun i => (i.zero, i.size, i.bytes)) = some (some (.bool false), 1, 1) := by kernel_rfl
theorem Same.dn {a w : World} (h : Same a w) (n : Nat) : Same a (w.drewN n) := ⟨h.os, h.tape, h.output, h.heap⟩
set_option maxHeartbeats 2000000 in
set_option maxRecDepth 100000 in
theorem prM_good (b cap : Nat) (P : List Pt) (f : Pt) (n : Nat) (w : World) (hPn : P.length = n) (hn : n ≤ 200) (ho : P.all ptOk = true) (hf : ptOk f = true) (hb : b < w.heap.size) (hc : PtsAt w b 0 P) :
    Calls Try.prog 9 #[.slice (some ⟨b, 0, none⟩) n cap, .agg #[.int .i64 f.1, .int .i64 f.2]] w fun e w' => (∃ v, e = .returned (.tuple #[v, .int .i64 (wayN P f n).2.1, .int .i64 0]) ∧ Row w' w.heap.size 3 1 v (wayN P f n).1.length (nums (wayN P f n).1)) ∧ Below w.heap.size w w' := by
  have HPN := hide hPn
  have HC := hide hc
  have HPA : Hid (∀ q ∈ P, Rpt q) := hide (fun q hq => ok_rpt (List.all_eq_true.1 ho q hq))
  have HFR := hide (ok_rpt hf)
  have HW := hide (fun k (hk : k ≤ n) => way_ok (f := f) (unhide HPA) (unhide HFR) k (by rw [hPn]; exact hk))
  have HP := hide (fun W (h1 : Below w.heap.size w W) => ptsM_any b 0 cap P W (by omega) (Nat.lt_of_lt_of_le hb h1.size) (hc.below h1))
  rw [ho, hPn] at HP
  have HWR := hide (fun W => okM_ints f.1 f.2 W)
  rw [show ((f.1, f.2) : Pt) = f from rfl, hf] at HWR
  have HB := hide hb
  have hmk := fun W => make_bools (P := Try.prog) 32 4 n Try.underlying32 bool_info (by omega) W
  obtain ⟨f1, f2⟩ := f
  simp only at HWR
  have n0 : (0 : Int) ≤ (n : Int) := Int.natCast_nonneg _
  have d0 : decide ((4096 : Int) < (n : Int)) = false := decide_eq_false (by omega)
  have d1 : decide ((200 : Int) < (n : Int)) = false := decide_eq_false (by omega)
  have HBX := hide (iblk_box w f1 f2)
  have HBB := hide (ba (Below.refl w.heap.size w) (.cells #[.int .i64 f1, .int .i64 f2] 26))
  obtain ⟨iP, hi1, hy0, hy1, hy2⟩ := info_parts int_info3
  generalize hZ : (List.replicate n false).map Value.bool = Z at hmk
  have HZ := hide hZ
  clear hPn hc ho hf hb hZ
  go_enter Try.func9, Try.ntmps9
  go_wp2_with fail
  refine (unhide HP _ (unhide HBB)).mono ?_
  rintro e W1 ⟨rfl, hb1⟩
  have hx1 := (unhide HBX).bel hb1
  have c0 := hx1.cell (m := 0) (x := f1) rfl
  have c1 := hx1.cell (m := 1) (x := f2) rfl
  have HX1 := hide hx1
  have HB1 := hide (bc (unhide HBB) hb1)
  clear hb1 hx1
  go_wp2_with fail
  refine (unhide HWR _).mono ?_
  rintro e W2 ⟨rfl, hb2⟩
  have HX2 := hide ((unhide HX1).bel hb2)
  have HB2 := hide (bc (unhide HB1) hb2)
  clear hb2 c0 c1
  go_wp2_with fail
  have HX4 : Hid (iblk ((W2.alloc (.cells Z.toArray 4)).alloc (.cells #[] 3)) w.heap.size 26 [f1, f2]) := hide ((unhide HX2).bel (ba (ba (Below.refl _ _) _) _))
  have HU4 : Hid (bblk ((W2.alloc (.cells Z.toArray 4)).alloc (.cells #[] 3)) W2.heap.size (flg n [])) := hide (by
    have := vblk_new W2 4 Z
    rw [flg_nil]
    unfold bblk
    rw [unhide HZ]
    exact this.bel (ba (Below.refl _ _) _))
  have HR4 : Hid (Row ((W2.alloc (.cells Z.toArray 4)).alloc (.cells #[] 3)) (W2.heap.size + 1) 3 1 (.slice (some ⟨W2.heap.size + 1, 0, none⟩) 0 0) 0 []) := hide (row_made _ 3 _ 1 (by simp) _ (by simp))
  have HB4 := hide (ba (ba (unhide HB2) (.cells Z.toArray 4)) (.cells #[] 3))
  have HRU := hide (unhide HX2).lt
  generalize (W2.alloc (.cells Z.toArray 4)).alloc (.cells #[] 3) = W4 at *
  generalize W2.heap.size = U at *
  obtain ⟨R, hR⟩ : ∃ R, w.heap.size = R := ⟨_, rfl⟩
  rw [hR] at HX4 HB4 HRU ⊢
  have HR := hide hR
  clear hR HX1 HX2 HB1 HB2 HBX HBB hmk
  go_loopw [8, 9, 38] (fun zv zs y W => ∃ i : Nat, y = .int .i64 (i : Int) ∧ zs = .int .i64 (wayN P (f1, f2) i).2.1 ∧ i ≤ n ∧ zv ≠ .slice none 0 0 ∧ Row W (U + 1) 3 1 zv i (nums (wayN P (f1, f2) i).1) ∧ bblk W U (flg n (wayN P (f1, f2) i).1) ∧ iblk W R 26 [(wayN P (f1, f2) i).2.2.1, (wayN P (f1, f2) i).2.2.2] ∧ Below R w W) (fun zv zs y _ => n - (intOf y).toNat)
  case atStart =>
    exact ⟨0, rfl, rfl, Nat.zero_le _, by simp, unhide HR4, unhide HU4, unhide HX4, unhide HB4⟩
  case round =>
    obtain ⟨i, rfl, rfl, hi, hvn, hr, hu, hx, hw⟩ := hrel
    have hok := (unhide HW) i hi
    have HNX : Hid (wayN P (f1, f2) (i + 1) = stepW P (wayN P (f1, f2) i)) := hide rfl
    have HEN : Hid (i = n → wayN P (f1, f2) n = wayN P (f1, f2) i) := hide (fun e => by rw [e])
    generalize wayN P (f1, f2) i = s at *
    obtain ⟨A, S, g1, g2⟩ := s
    simp only at hr hu hx
    obtain ⟨gr, cr, rfl, hgr, hgr2, hcr1, hcr2⟩ := hr.sm hvn
    have HRR := hide hr
    have HUU := hide hu
    have HXX := hide hx
    have HWW := hide hw
    have HOK := hide hok
    have s0 := hok.sum0
    have s1 := hok.sum1
    simp only at s0 s1
    clear hr hu hx hw hok hvn HR4 HU4 HX4 HB4
    by_cases h : i < n
    · have i1 : decide ((i : Int) < (n : Int)) = true := decide_eq_true (by omega)
      have i0 : (0 : Int) ≤ (i : Int) := Int.natCast_nonneg _
      have i2 : (i : Int) < (n : Int) := by omega
      obtain ⟨bb, hbest, hmem, hstep, hok⟩ := way_step (unhide HPA) (by rw [unhide HPN]; exact h) (unhide HOK)
      rw [unhide HPN] at hbest hmem
      simp only at hbest hmem hstep
      have HRP := hide ((unhide HOK).pt)
      have HBEST := hide hbest
      have HMEM := hide (lft_mem.1 hmem)
      have HSTEP := hide hstep
      have HCW : Hid (PtsAt wr b 0 P) := hide ((unhide HC).bel (unhide HWW) (by have := unhide HB; have := unhide HR; omega))
      clear hbest hmem hstep hok
      go_wp2_with fail
      generalize hWo : wr = Wo at *
      clear hWo
      go_loopw [10, 11, 12] (fun zb zf y W => ∃ k : Nat, y = .int .i64 (k : Int) ∧ k ≤ n ∧ zb = .int .i64 (encO (best (gd P (g1, g2)) ((List.range k).filter fun i => !A.contains i))) ∧ zf = .int .i64 (farO (gd P (g1, g2)) (best (gd P (g1, g2)) ((List.range k).filter fun i => !A.contains i))) ∧ Same Wo W) (fun zb zf y _ => n - (intOf y).toNat)
      case atStart =>
        exact ⟨0, rfl, Nat.zero_le _, rfl, rfl, Same.refl _⟩
      case round =>
        obtain ⟨k, rfl, hk, rfl, rfl, hsame⟩ := hrel
        have HSM := hide hsame
        clear hsame
        have HBR := hide (best_range (gd P (g1, g2)) (fun i => !A.contains i) k)
        generalize hO : best (gd P (g1, g2)) ((List.range k).filter fun i => !A.contains i) = O at *
        have HO := hide hO
        clear hO
        obtain ⟨eb, he⟩ : ∃ eb, encO O = eb := ⟨_, rfl⟩
        obtain ⟨fo, hfo⟩ : ∃ fo, farO (gd P (g1, g2)) O = fo := ⟨_, rfl⟩
        rw [he, hfo]
        have HE := hide he
        have HFO := hide hfo
        clear he hfo
        by_cases h2 : k < n
        · have k1 : decide ((k : Int) < (n : Int)) = true := decide_eq_true (by omega)
          have k0 : (0 : Int) ≤ (k : Int) := Int.natCast_nonneg _
          have k2 : (k : Int) < (n : Int) := by omega
          obtain ⟨⟨q1, q2⟩, hq⟩ : ∃ q, P[k]? = some q := ⟨_, List.getElem?_eq_getElem (by have := unhide HPN; omega)⟩
          have hrq := (unhide HPA) _ (List.mem_of_getElem? hq)
          have hrp := unhide HRP
          obtain ⟨⟨p1, p2⟩, p3, p4⟩ := hrq
          obtain ⟨⟨r1, r2⟩, r3, r4⟩ := hrp
          simp only at p1 p2 p3 p4 r1 r2 r3 r4
          have GQ := hide (gd_at (g1, g2) hq)
          obtain ⟨a0, a1⟩ := ab_le (x := q1 - g1) (m := 200000) (by omega) (by omega)
          obtain ⟨a2, a3⟩ := ab_le (x := q2 - g2) (m := 200000) (by omega) (by omega)
          have ww1 : IntKind.i64.wrap (q1 - g1) = q1 - g1 := Go.IntWalk.i64_in _ ⟨by omega, by omega⟩
          have ww2 : IntKind.i64.wrap (q2 - g2) = q2 - g2 := Go.IntWalk.i64_in _ ⟨by omega, by omega⟩
          have ww3 : IntKind.i64.wrap (ab (q1 - g1) + ab (q2 - g2)) = ab (q1 - g1) + ab (q2 - g2) := Go.IntWalk.i64_in _ ⟨by omega, by omega⟩
          have hcl := (unhide HSM).cell
          obtain ⟨c2, c3⟩ := (unhide HCW) k _ hq
          simp only [Nat.zero_add] at c2 c3
          rw [← hcl] at c2 c3
          have c0 := (unhide HXX).cell (m := 0) rfl
          have c1 := (unhide HXX).cell (m := 1) rfl
          have c4 := (unhide HUU).cell (flg_at A h2)
          rw [← hcl] at c0 c1 c4
          clear hq hcl
          go_wp2_with fail
          go_region_held3 (fun wx => wx.cell? ⟨R, 0, none⟩ = some (.int .i64 g1) ∧ wx.cell? ⟨R, 1, none⟩ = some (.int .i64 g2) ∧ wx.cell? ⟨b, k * 2, none⟩ = some (.int .i64 q1) ∧ wx.cell? ⟨b, k * 2 + 1, none⟩ = some (.int .i64 q2) ∧ wx.cell? ⟨U, k, none⟩ = some (.bool (A.contains k)))
            (simp (maxDischargeDepth := 12) [go_sem, le1, lt1, *])
            (first
            | (go_at_call 34; refine (absM_any _ _ (by omega) (by omega)).mono ?_; rintro e w7 ⟨rfl, rfl⟩))
          have HSMd : Hid (Same Wo wr.drew) := hide ((unhide HSM).drew)
          generalize hdd : ab (q1 - g1) + ab (q2 - g2) = dd at *
          have HDD : Hid (gd P (g1, g2) k = dd) := hide (by rw [unhide GQ]; exact hdd)
          generalize hAk : A.contains k = ak at *
          have c4' : wr.drew.cell? ⟨U, k, none⟩ = some (.bool ak) := c4
          clear hdd c0 c1 c2 c3 ww1 ww2 ww3 a0 a1 a2 a3 c4
          cases ak with
          | true =>
            have HN : Hid (best (gd P (g1, g2)) ((List.range (k + 1)).filter fun i => !A.contains i) = O) := hide (by rw [unhide HBR, if_neg (by simp [hAk])])
            clear hAk
            go_wp2_with fail
            go_roundw
            case rel =>
              exact ⟨k + 1, by simp, h2, by rw [unhide HN, unhide HE], by rw [unhide HN, unhide HFO], unhide HSMd⟩
            case measure => simp only [intOf]; omega
          | false =>
            have HN : Hid (best (gd P (g1, g2)) ((List.range (k + 1)).filter fun i => !A.contains i) = pick (gd P (g1, g2)) O k) := hide (by rw [unhide HBR, if_pos (by simp [hAk])])
            clear hAk
            cases O with
            | none =>
              have e1 : eb = -1 := (unhide HE).symm
              have t1 : decide (eb < 0) = true := decide_eq_true (by omega)
              have HE1 := hide e1
              clear e1
              go_wp2_with fail
              go_roundw
              case rel =>
                exact ⟨k + 1, by simp, h2, by rw [unhide HN]; rfl, by rw [unhide HN]; show _ = Value.int .i64 (gd P (g1, g2) k); rw [unhide HDD], unhide HSMd⟩
              case measure => simp only [intOf]; omega
            | some bo =>
              have e1 : eb = (bo : Int) := (unhide HE).symm
              have t1 : decide (eb < 0) = false := decide_eq_false (by omega)
              have HF1 : Hid (gd P (g1, g2) bo = fo) := hide (unhide HFO)
              have HE1 := hide e1
              clear e1
              by_cases q : dd < fo
              · have t2 : decide (dd < fo) = true := decide_eq_true q
                have HN2 : Hid (pick (gd P (g1, g2)) (some bo) k = some k) := hide (by show (if gd P (g1, g2) k < gd P (g1, g2) bo then some k else some bo) = some k; rw [unhide HDD, unhide HF1, if_pos q])
                go_wp2_with fail
                go_roundw
                case rel =>
                  exact ⟨k + 1, by simp, h2, by rw [unhide HN, unhide HN2]; rfl, by rw [unhide HN, unhide HN2]; show _ = Value.int .i64 (gd P (g1, g2) k); rw [unhide HDD], unhide HSMd⟩
                case measure => simp only [intOf]; omega
              · have t2 : decide (dd < fo) = false := decide_eq_false q
                have HN2 : Hid (pick (gd P (g1, g2)) (some bo) k = some bo) := hide (by show (if gd P (g1, g2) k < gd P (g1, g2) bo then some k else some bo) = some bo; rw [unhide HDD, unhide HF1, if_neg q])
                go_wp2_with fail
                go_roundw
                case rel =>
                  exact ⟨k + 1, by simp, h2, by rw [unhide HN, unhide HN2, ← unhide HE], by rw [unhide HN, unhide HN2, ← unhide HFO], unhide HSMd⟩
                case measure => simp only [intOf]; omega
        · have k1 : decide ((k : Int) < (n : Int)) = false := decide_eq_false (by omega)
          obtain rfl : k = n := by omega
          have hO2 : O = some bb := (unhide HO).symm.trans (unhide HBEST)
          subst hO2
          obtain rfl : (bb : Int) = eb := unhide HE
          obtain rfl : gd P (g1, g2) bb = fo := unhide HFO
          obtain ⟨bn, bnA⟩ := unhide HMEM
          have bb0 : (0 : Int) ≤ (bb : Int) := Int.natCast_nonneg _
          have bb2 : (bb : Int) < (k : Int) := by omega
          obtain ⟨⟨q1, q2⟩, hq⟩ : ∃ q, P[bb]? = some q := ⟨_, List.getElem?_eq_getElem (by have := unhide HPN; omega)⟩
          have sb := stp_le (unhide HRP) ((unhide HPA) _ (List.mem_of_getElem? hq))
          have GQ := hide (gd_at (g1, g2) hq)
          have HQ := hide hq
          generalize hfo : gd P (g1, g2) bb = fo at *
          have sb0 : 0 ≤ fo := by rw [unhide GQ]; exact sb.1
          have sb1 : fo ≤ 400000 := by rw [unhide GQ]; exact sb.2
          have HFX := hide hfo
          have ws : IntKind.i64.wrap (S + fo) = S + fo := Go.IntWalk.i64_in _ ⟨by omega, by omega⟩
          have hU : bblk wr U (flg k A) := vblk.same (unhide HUU) (unhide HSM)
          have hR : Row wr (U + 1) 3 1 (.slice (some ⟨gr, 0, none⟩) i cr) i (nums A) := (unhide HRR).below (unhide HSM).bel
          have hX : iblk wr R 26 [g1, g2] := (unhide HSM).iblk (unhide HXX)
          have hBw : Below R w wr := (unhide HWW).trans (unhide HSM).bel
          have c4 := hU.cell (flg_at A bn)
          have fz : ∀ o, wr.frozen? ⟨U, o, none⟩ = false := vblk.frozen hU
          have ngu : gr ≠ U := by omega
          have nRU : R ≠ U := Nat.ne_of_lt (unhide HRU)
          have hlt : gr < wr.heap.size := by have := (unhide HSM).heap; rw [this]; exact hgr2
          have HU5 : Hid (bblk (wr.setCell ⟨U, bb, none⟩ (.bool true)) U (flg k (A ++ [bb]))) := hide (by rw [← flg_set]; exact hU.set bb true)
          have HR5 : Hid (Row (wr.setCell ⟨U, bb, none⟩ (.bool true)) (U + 1) 3 1 (.slice (some ⟨gr, 0, none⟩) i cr) i (nums A)) := hide (hR.kept' (fun y hy => by simp only [Value.ownBlock, Option.some.injEq] at hy; subst hy; exact Below.heap_setCell _ _ _ _ ngu))
          have HX5 : Hid (iblk (wr.setCell ⟨U, bb, none⟩ (.bool true)) R 26 [g1, g2]) := hide ((Below.heap_setCell _ _ _ _ nRU).trans hX)
          have HB5 : Hid (Below R w (wr.setCell ⟨U, bb, none⟩ (.bool true))) := hide (Below.setCell hBw (Nat.le_of_lt (unhide HRU)) _)
          have hsz5 : U + 1 ≤ (wr.setCell ⟨U, bb, none⟩ (.bool true)).heap.size := by simp [World.setCell]; omega
          have HSW : Hid (wr.heap.size = (wr.setCell ⟨U, bb, none⟩ (.bool true)).heap.size) := hide (by simp [World.setCell])
          clear hq hfo sb hU hR hX hBw
          go_wp2_with (at_builtin; refine unhide ?_)
          generalize wr.setCell ⟨U, bb, none⟩ (.bool true) = Ws at *
          refine hide ?_
          refine wpList_append_own _ rfl _ _ 28 rfl (U + 1) 3 iP _ 1 8 Try.underlying28 hi1 hy0 hy1 hy2 rfl (by decide) _ i ((nums A).map (Value.int .i64)) rfl ((unhide HR5).alloc _) _ 1 1 ([(bb : Int)].map (Value.int .i64)) rfl rfl (by first | exact news_cells _ _ (unhide HSW) | exact news_cells _ _ rfl | exact news_cells _ _ (by simp)) ints_one (by unfold maxLen; omega) (by omega) (by first | omega | (simp; omega)) ?_
          intro v1 w1 hown' hgrow hvn1
          have R1 := own_more (wr := Ws) (news := [(bb : Int)]) (by repeat (first | exact Below.refl _ _ | refine Below.alloc ?_ (by first | omega | (simp; omega)) _ | refine Below.drew ?_)) (by simp; omega) (unhide HR5) hown' hgrow
          have HR1 := hide R1.1
          have hB1 := R1.2
          have HN1 : Hid (v1 ≠ .slice none 0 0) := hide (fun e => by have := (hvn1.1 e).1; cases this)
          have HU6 : Hid (bblk w1 U (flg k (A ++ [bb]))) := hide (vblk.below (unhide HU5) hB1 (Nat.lt_succ_self _))
          have hX6 : iblk w1 R 26 [g1, g2] := (unhide HX5).below hB1 (by have := unhide HRU; omega)
          have HB6 : Hid (Below R w w1) := hide ((unhide HB5).trans (Below.mono hB1 (by have := unhide HRU; omega)))
          have hC6 : PtsAt w1 b 0 P := (unhide HC).bel (unhide HB6) (by have := unhide HB; have := unhide HR; omega)
          obtain ⟨c2, c3⟩ := hC6 bb _ (unhide HQ)
          simp only [Nat.zero_add] at c2 c3
          have x0 := hX6.cell (m := 0) rfl
          have x1 := hX6.cell (m := 1) rfl
          have fz6 : ∀ o, w1.frozen? ⟨R, o, none⟩ = false := hX6.frozen
          have HX6 := hide hX6
          clear hown' hgrow hvn1 R1 hB1 hX6 hC6 c4 fz
          go_wp2_with fail
          go_roundw
          case rel =>
            refine ⟨i + 1, by simp, ?_, h, unhide HN1, ?_, ?_, ?_, ?_⟩
            · rw [unhide HNX, unhide HSTEP]
            · rw [unhide HNX, unhide HSTEP]
              have e : nums (A ++ [bb]) = nums A ++ [(bb : Int)] := by simp [nums]
              show Row _ (U + 1) 3 1 v1 (i + 1) (nums (A ++ [bb]))
              rw [e]
              exact (unhide HR1).kept' (fun y hy => by
                have h1 := (World.ownsRow.lt (unhide HR1) y hy).1
                have : y ≠ R := by have := unhide HRU; omega
                exact (Below.heap_setCell _ _ _ _ this).trans (Below.heap_setCell _ _ _ _ this))
            · rw [unhide HNX, unhide HSTEP]
              exact (Below.heap_setCell _ _ _ _ (Ne.symm nRU)).trans ((Below.heap_setCell _ _ _ _ (Ne.symm nRU)).trans (unhide HU6))
            · rw [unhide HNX, unhide HSTEP]
              simp only [unhide HQ, Option.getD_some]
              exact ((unhide HX6).set 0 q1).set 1 q2
            · exact Below.setCell (Below.setCell (unhide HB6) (Nat.le_refl _) _) (Nat.le_refl _) _
          case measure => simp only [intOf]; omega
    · have i1 : decide ((i : Int) < (n : Int)) = false := decide_eq_false (by omega)
      obtain rfl : i = n := by omega
      have HE := hide ((unhide HEN) rfl)
      have HAL := hide ((unhide HOK).len)
      go_wp2_with fail
      refine bodyPost_ret (v := .tuple #[.slice (some ⟨gr, 0, none⟩) i cr, .int .i64 S, .int .i64 0]) (by simp [results, Try.results9, go_sem]) rfl ⟨⟨_, by rw [unhide HE], ?_⟩, ?_⟩
      · rw [unhide HE]
        have h1 := (unhide HRR).mono (B' := R) (by have := unhide HRU; omega)
        have h2 : A.length = i := unhide HAL
        show Row _ _ 3 1 _ A.length (nums A)
        rw [h2]
        first | exact h1 | (rw [unhide HR]; exact h1)
      · first | exact unhide HWW | (rw [unhide HR]; exact unhide HWW)
set_option maxHeartbeats 2000000 in
set_option maxRecDepth 100000 in
theorem prM_any (b cap : Nat) (P : List Pt) (f : Pt) (w : World) (hn : P.length ≤ 4611686018427387904) (hb : b < w.heap.size) (hc : PtsAt w b 0 P) :
    Calls Try.prog 9 #[.slice (some ⟨b, 0, none⟩) P.length cap, .agg #[.int .i64 f.1, .int .i64 f.2]] w fun e w' => (∃ v, e = .returned (.tuple #[v, .int .i64 (prS P f), .int .i64 (prC P f)]) ∧ Row w' w.heap.size 3 1 v (prL P f).length (nums (prL P f))) ∧ Below w.heap.size w w' := by
  by_cases ho : prOk P f
  · have e1 : prS P f = (wayN P f P.length).2.1 := if_pos ho
    have e2 : prL P f = (wayN P f P.length).1 := if_pos ho
    have e3 : prC P f = 0 := by unfold prC; rw [if_neg (by have := ho.1; omega), if_pos ho]
    rw [e1, e2, e3]
    exact prM_good b cap P f P.length w rfl ho.1 ho.2.1 ho.2.2 hb hc
  · have e1 : prS P f = 0 := if_neg ho
    have e2 : prL P f = [] := if_neg ho
    have e3 : prC P f = if 4096 < P.length then 2 else 1 := by unfold prC; rw [if_neg ho]
    rw [e1, e2, e3]
    show Calls _ _ _ _ fun e w' => (∃ v, _ ∧ Row w' w.heap.size 3 1 v 0 []) ∧ _
    have HBB := hide (ba (Below.refl w.heap.size w) (.cells #[.int .i64 f.1, .int .i64 f.2] 26))
    have HBX := hide (iblk_box w f.1 f.2)
    have HP := hide (fun W (h1 : Below w.heap.size w W) => ptsM_any b 0 cap P W hn (Nat.lt_of_lt_of_le hb h1.size) (hc.below h1))
    have HWR := hide (fun W => okM_ints f.1 f.2 W)
    have hff : ((f.1, f.2) : Pt) = f := rfl
    rw [hff] at HWR
    have HO : Hid (P.length ≤ 200 → P.all ptOk = true → ptOk f = true → False) := hide (fun h1 h2 h3 => ho ⟨h1, h2, h3⟩)
    obtain ⟨f1, f2⟩ := f
    simp only at HBB HBX HWR HO ⊢
    generalize P.all ptOk = pa at *
    generalize ptOk (f1, f2) = pf at *
    generalize P.length = n at *
    clear hc hb ho e1 e2 e3 hff
    have n0 : (0 : Int) ≤ (n : Int) := Int.natCast_nonneg _
    by_cases h1 : 4096 < n
    · rw [if_pos h1]
      have d0 : decide ((4096 : Int) < (n : Int)) = true := decide_eq_true (by omega)
      go_enter Try.func9, Try.ntmps9
      go_wp2_with fail
      exact bodyPost_ret (v := .tuple #[.slice (some ⟨w.heap.size + 1, 0, none⟩) 0 0, .int .i64 0, .int .i64 2]) (by simp [results, Try.results9, go_sem]) rfl ⟨⟨_, rfl, row_made _ 3 _ 1 (by simp) _ (by simp)⟩, ba (unhide HBB) _⟩
    · rw [if_neg h1]
      have d0 : decide ((4096 : Int) < (n : Int)) = false := decide_eq_false (by omega)
      by_cases h2 : 200 < n
      · have d1 : decide ((200 : Int) < (n : Int)) = true := decide_eq_true (by omega)
        go_enter Try.func9, Try.ntmps9
        go_wp2_with fail
        exact bodyPost_ret (v := .tuple #[.slice (some ⟨w.heap.size + 1, 0, none⟩) 0 0, .int .i64 0, .int .i64 1]) (by simp [results, Try.results9, go_sem]) rfl ⟨⟨_, rfl, row_made _ 3 _ 1 (by simp) _ (by simp)⟩, ba (unhide HBB) _⟩
      · have d1 : decide ((200 : Int) < (n : Int)) = false := decide_eq_false (by omega)
        cases pa with
        | false =>
          go_enter Try.func9, Try.ntmps9
          go_wp2_with fail
          refine (unhide HP _ (unhide HBB)).mono ?_
          rintro e W1 ⟨rfl, hb1⟩
          have HB1 := hide (bc (unhide HBB) hb1)
          clear hb1
          go_wp2_with fail
          exact bodyPost_ret (v := .tuple #[.slice (some ⟨W1.heap.size, 0, none⟩) 0 0, .int .i64 0, .int .i64 1]) (by simp [results, Try.results9, go_sem]) rfl ⟨⟨_, rfl, row_made _ 3 _ 1 (unhide HB1).size _ rfl⟩, ba (unhide HB1) _⟩
        | true =>
          obtain rfl : pf = false := by
            cases pf with
            | false => rfl
            | true => exact ((unhide HO) (by omega) rfl rfl).elim
          go_enter Try.func9, Try.ntmps9
          go_wp2_with fail
          refine (unhide HP _ (unhide HBB)).mono ?_
          rintro e W1 ⟨rfl, hb1⟩
          have hx1 := (unhide HBX).bel hb1
          have c0 := hx1.cell (m := 0) (x := f1) rfl
          have c1 := hx1.cell (m := 1) (x := f2) rfl
          have HB1 := hide (bc (unhide HBB) hb1)
          clear hb1 hx1
          go_wp2_with fail
          refine (unhide HWR _).mono ?_
          rintro e W2 ⟨rfl, hb2⟩
          have HB2 := hide (bc (unhide HB1) hb2)
          clear hb2 c0 c1
          go_wp2_with fail
          exact bodyPost_ret (v := .tuple #[.slice (some ⟨W2.heap.size, 0, none⟩) 0 0, .int .i64 0, .int .i64 1]) (by simp [results, Try.results9, go_sem]) rfl ⟨⟨_, rfl, row_made _ 3 _ 1 (unhide HB2).size _ rfl⟩, ba (unhide HB2) _⟩
end Go.Proofs.Ytdneepojgklciaa
