/-
  The law of sways, walked.
-/
import Derived.Test.YtgocgcnpgmamiaaSyA
import Derived.Test.YtgocgcnpgmamiaaSwR2
import Derived.Test.YtgocgcnpgmamiaaSwM
import Derived.Test.YtgocgcnpgmamiaaLdM
namespace Go.Proofs.Ytgocgcnpgmamiaa
open Go.ChangeShapes Go.WideShapes Go.ChangeAt Go.RowKit
set_option linter.unusedVariables false
set_option linter.unusedSimpArgs false
attribute [local go_sem] run_store_flt run_store_cpx

theorem code_bel {w w' : World} {a : Option Addr} {len cap : Nat} {zs : List Int} (h : Code w.heap.size w a len cap zs) (hb : Below w.heap.size w w') : Code w'.heap.size w' a len cap zs := by
  rcases h.mv (Mv.of_bel (g := w.heap.size) hb) (Nat.le_refl _) with h1 | ⟨b, off, h1, h2, h3, r⟩
  · exact .inl h1
  · exact .inr ⟨b, off, h1, h3, h3, r⟩
theorem run_q {op : BinOp} {k : FloatKind} {x y r : Nat} (h : floatBits op k x y = some r) (t : TypeId) : ∀ W : World, (binOp op t (.float k x) (.float k y)).run Try.prog W = .ok (.float k r) W := fun W => run_float_arith W op t k x y r h
theorem FRow.fls3 {fk : FloatKind} {w : World} {B t k n g cap : Nat} {L : List Nat} (h : FRow fk w B t k (.slice (some ⟨g, 0, none⟩) n cap) n L) (hn : n ≠ 0) : Fls fk w (some ⟨g, 0, none⟩) g 0 L := fun _ => by
  obtain ⟨g2, c2, e, _, h4, h5, _⟩ := h.full hn
  cases e
  exact ⟨rfl, h4, h5⟩
set_option maxHeartbeats 8000000 in
set_option maxRecDepth 100000 in
theorem fnSway_core (a a2 : Option Addr) (len cap len2 cap2 : Nat) (zs zs2 : List Int) (w : World) (hl : len ≤ 1048576) (hl2 : len2 ≤ 1048576) (hc : Code w.heap.size w a len cap zs) (hc2 : Code w.heap.size w a2 len2 cap2 zs2) :
    Calls Try.prog 3 #[.slice a len cap, .slice a2 len2 cap2] w fun e w' => e = .returned (.bool true) ∧ Below w.heap.size w w' := by
  have t1 : decide ((1048576 : Int) < (len : Int)) = false := decide_eq_false (by omega)
  have t2 : decide ((1048576 : Int) < (len2 : Int)) = false := decide_eq_false (by omega)
  have HMD := hide (massesD a len cap zs w hc (by omega))
  have HC2 := hide hc2
  clear hc hc2
  obtain ⟨iI, hi1, hy0, hy1, hy2⟩ := info_parts f64_info
  have HI1 := hide hi1
  have HY0 := hide hy0
  have HY1 := hide hy1
  have HY2 := hide hy2
  clear hi1 hy0 hy1 hy2
  go_enter Try.func3, Try.ntmps3
  go_wp2_with fail
  refine (unhide HMD).mono ?_
  rintro e W1 ⟨⟨v, n, L, rfl, hr, hok⟩, hb⟩
  obtain ⟨n1, n20, hms⟩ := ok_parts hok
  obtain ⟨gm, cm, rfl, hgm, hlm, _⟩ := hr.full (by omega)
  have hL := hr.len
  have HL := hide hL
  have HR := hide hr
  have HMS := hide hms
  have HW1 := hide hb
  have hc0 := ok_zero hok
  have hcap : n ≤ cm := by
    rcases hr.2 with ⟨h, _⟩ | ⟨g', cap', cur, h, _, _, h2, _⟩
    · cases h
    · cases h; exact h2
  obtain ⟨x0, x1, x2, k0, k1, k2, hm3⟩ := first_mass hL n1
  have HM3 := hide (hm3 (hms 0 (by omega)))
  have K0 := hide k0
  have K1 := hide k1
  have K2 := hide k2
  have HC0 := hide hc0
  have np : (0 : Int) < (n : Int) := by omega
  clear hr hms hb hL hok HMD hm3 k0 k1 k2 hc0 hgm hlm
  go_wp2_with fail
  refine (swayP_any (some ⟨gm, 0, none⟩) gm 0 n cm L 0 _ (unhide HL) (by omega) ((unhide HR).fls3 (by omega))).mono ?_
  rintro e W2 ⟨⟨v, rfl, hF⟩, hb⟩
  unfold swN swF at hF
  rw [if_pos (unhide HC0), if_pos (unhide HC0)] at hF
  rw [unhide HC0]
  obtain ⟨T, hT, hTF⟩ := hF
  obtain ⟨gt, ct, rfl, _⟩ := hT.full (by omega)
  have HT := hide hT
  have HTF := hide hTF
  have HR2 := hide ((unhide HR).below hb)
  have HW2 := hide (bc (unhide HW1) hb)
  clear hT hTF hb HR HW1
  go_wp2_with fail
  go_loopw [8, 9] (fun s1 s2 W => ∃ (i s : Nat), s1 = .float .f64 s ∧ s2 = .int .i64 (i : Int) ∧ i ≤ n ∧ Sm L i s ∧ Below W2.heap.size W2 W) (fun _ s _ => n - (intOf s).toNat)
  case atStart => exact ⟨0, 0, rfl, rfl, Nat.zero_le _, ⟨num_0, fun _ => val_0, fun h => by omega⟩, Below.refl _ _⟩
  case round =>
    obtain ⟨i, s, rfl, rfl, hi, hsm, hw⟩ := hrel
    have HSM := hide hsm
    have HW := hide hw
    clear hsm hw
    have i0 : (0 : Int) ≤ (i : Int) := Int.natCast_nonneg _
    by_cases h : i < n
    · have i1 : (i : Int) < (n : Int) := by omega
      have iz : decide ((i : Int) < (n : Int)) = true := decide_eq_true i1
      obtain ⟨q, r, f1, f2, hsm⟩ := sm_step (unhide HSM) (fun j hj => unhide HMS j (by omega)) (by omega)
      obtain ⟨ta, tb, ea, eb, ca, cb⟩ := sway_zero (unhide HMS) n20 (unhide HTF) h hsm
      obtain ⟨x, hx⟩ := fat_of (f := 2) (unhide HL) h (by omega)
      have ex : L.getD (i * 3 + 2) 0 = x := by rw [List.getD_eq_getElem?_getD, hx]; rfl
      rw [ex] at f1
      have cx := ((unhide HR2).below (unhide HW)).cellAt hx
      have cta := ((unhide HT).below (unhide HW)).cellAt ea
      have ctb := ((unhide HT).below (unhide HW)).cellAt eb
      have q1 := run_q f1 28
      have q2 := run_q f2 28
      have HCA := hide ca
      have HCB := hide cb
      have HST := hide hsm
      clear ea eb ca cb hx ex f1 f2 hsm
      go_wp2_with fail
      refine (unhide HCA _).mono ?_
      rintro e w' ⟨rfl, hq⟩
      rw [hq]
      clear hq
      go_wp2_with fail
      refine (unhide HCB _).mono ?_
      rintro e w' ⟨rfl, hq⟩
      rw [hq]
      clear hq
      go_wp2_with fail
      go_roundw
      case rel => exact ⟨i + 1, r, rfl, by simp, h, unhide HST, unhide HW⟩
      case measure => simp only [intOf]; omega
    · have iz : decide ((i : Int) < (n : Int)) = false := decide_eq_false (by omega)
      have i9 : ¬ (i : Int) < (n : Int) := by omega
      have HW3 : Hid (Below w.heap.size w wr) := hide (bc (unhide HW2) (unhide HW))
      have HR3 := hide ((unhide HR2).below (unhide HW))
      clear HW HT HTF HR2 HW2 HSM
      go_wp2_with fail
      refine (at_any a2 len2 cap2 wr.heap.size zs2 0 40 _ (code_bel (unhide HC2) (unhide HW3)) hl2 (by omega) (by omega)).mono ?_
      rintro e W4 ⟨r, rfl, r0, r1, hb⟩
      obtain ⟨q, rfl⟩ : ∃ q : Nat, r = (q : Int) := ⟨r.toNat, by omega⟩
      obtain ⟨m, hm⟩ : ∃ m, q + 1 = m := ⟨_, rfl⟩
      have wn : IntKind.i64.wrap (1 + (q : Int)) = (m : Int) := by rw [show 1 + (q : Int) = (m : Int) by omega]; exact wrap_i (by omega) (by omega)
      obtain ⟨wb, fw, nw, w1, w2⟩ := pulse_ok m (by omega)
      have qw := run_q fw 28
      have HW4 := hide (bc (unhide HW3) hb)
      have HR4 := hide ((unhide HR3).below hb)
      obtain ⟨q1, q2, re, im, A, B, N, hone, htwo⟩ := one_ok (unhide HM3) nw w1 w2
      have HONE := hide hone
      have HTWO := hide htwo
      have c0 : W4.cell? ⟨gm, 0, none⟩ = some (.float .f64 x0) := (unhide HR4).cellAt (unhide K0)
      have c1 : W4.cell? ⟨gm, 1, none⟩ = some (.float .f64 x1) := (unhide HR4).cellAt (unhide K1)
      have c2 : W4.cell? ⟨gm, 2, none⟩ = some (.float .f64 x2) := (unhide HR4).cellAt (unhide K2)
      have HFT := hide (fls_three c0 c1 c2)
      have n1i : (1 : Int) ≤ (n : Int) := by omega
      have hcapi : (1 : Int) ≤ (cm : Int) := by omega
      have hcap1 : 1 ≤ cm := by omega
      clear hb hm HW3 HR3 r0 r1 hone htwo nw w1 w2 fw c0 c1 c2
      go_wp2_with fail
      refine (swayP_any (some ⟨gm, 0, none⟩) gm 0 1 cm [x0, x1, x2] wb _ rfl (by omega) (unhide HFT)).mono ?_
      rintro e W5 ⟨⟨v, rfl, hF⟩, hb⟩
      have HR5 := hide ((unhide HR4).below hb)
      have HW5 := hide (bc (unhide HW4) hb)
      have HFT5 := hide ((unhide HFT).bel hb)
      clear HR4 HW4 HFT
      obtain ⟨R5, hr5, hf5⟩ := hF
      have f1 := hide (run_q (unhide HONE).f1 28)
      have f2 : Hid (∀ W : World, (binOp .mul 28 (.float .f64 q1) (.float .f64 x0)).run Try.prog W = .ok (.float .f64 q2) W) := hide (run_q (unhide HONE).f2 28)
      have f3 : Hid (∀ W : World, (binOp .sub 28 (.float .f64 x2) (.float .f64 q2)).run Try.prog W = .ok (.float .f64 re) W) := hide (run_q (unhide HONE).f3 28)
      have f4 : ∀ W : World, (binOp .mul 28 (.float .f64 wb) (.float .f64 x1)).run Try.prog W = .ok (.float .f64 im) W := run_q (unhide HONE).f4 28
      have f5 := run_q (unhide HONE).f5 28
      have f6 := run_q (unhide HONE).f6 28
      have f7 := run_q (unhide HONE).f7 28
      clear HONE
      by_cases hC1 : swC 1 [x0, x1, x2] wb = 0
      · have e5 : swN 1 [x0, x1, x2] wb = 1 := by unfold swN; rw [if_pos hC1]
        have e5F : swF 1 [x0, x1, x2] wb = [(swf [x0, x1, x2] wb 0 0).1, (swf [x0, x1, x2] wb 0 0).2] := by unfold swF; rw [if_pos hC1]; rfl
        rw [e5] at hr5
        rw [e5F] at hf5
        have e5H := hide e5
        have HCC := hide hC1
        obtain ⟨gz, co, rfl, _⟩ := hr5.full (by omega)
        have HZ5 := hide hr5
        have HF5 := hide hf5
        rw [unhide HCC]
        clear hr5 hf5 hb hC1 e5 e5F
        go_wp2_with fail
        refine (swayM_any (some ⟨gm, 0, none⟩) gm 0 1 cm [x0, x1, x2] wb _ rfl (by omega) (unhide HFT5)).mono ?_
        rintro e W6 ⟨⟨v6, rfl, hF6⟩, hb6⟩
        have HR6 := hide ((unhide HR5).below hb6)
        have HW6 := hide (bc (unhide HW5) hb6)
        obtain ⟨R6, hr6, _⟩ := hF6
        have e6 : swN 1 [x0, x1, x2] wb = 1 := unhide e5H
        rw [e6] at hr6
        rw [unhide HCC]
        obtain ⟨u6, c6, rfl, _⟩ := hr6.form
        have HZ6 := hide ((unhide HZ5).below hb6)
        clear hr6 hb6 HCC HR5 HW5 HFT5 e6 HZ5
        go_wp2_with fail
        refine Go.Code.wp_mono (Only.to (fun _ _ h => h)) (sy19 (x0 := x0) (x2 := x2) (q1 := q1) (q2 := q2) (re := re) f1 f2 f3 (hide ((unhide HR6).cellAt (unhide K2))) (hide ((unhide HR6).cellAt (unhide K0))) (hide (show 0 < n by omega)) (hide (show 0 < n by omega)) ?_)
        intro W7 hb7
        have HR7 := hide ((unhide HR6).below hb7)
        have HW7 := hide (bc (unhide HW6) hb7)
        have c1 : W7.cell? ⟨gm, 1, none⟩ = some (.float .f64 x1) := (unhide HR7).cellAt (unhide K1)
        have lgm := cell_lt c1
        have HZ7 := hide ((unhide HZ6).below hb7)
        clear hb7 HR6 HW6 HZ6
        cases hgt : (FloatKind.f64.format.order N 4517329193108106637 == some .gt) with
        | false =>
          have HRX := HR7
          have HWX := HW7
          clear HR7 HW7 HZ7 HF5
          go_wp2_with fail
          have HP0 := hide (frow_made (fk := .f64) W7 28 W7.heap.size 1 (Nat.le_refl _) W7.heap.size rfl)
          go_loopw [19, 20] (fun s t W => ∃ (i gp cp : Nat) (P : List Nat), s = .slice (some ⟨gp, 0, none⟩) i cp ∧ t = .int .i64 (i : Int) ∧ i ≤ 5 ∧ FRow .f64 W W7.heap.size 28 1 (.slice (some ⟨gp, 0, none⟩) i cp) i P ∧ Below W7.heap.size W7 W) (fun _ s _ => 6 - (intOf s).toNat)
          case atStart => exact ⟨0, _, 0, [], rfl, rfl, by omega, unhide HP0, ba (Below.refl _ _) _⟩
          case round =>
            clear HP0
            obtain ⟨i, gp, cp, P, rfl, rfl, hi5, hp, hw⟩ := hrel
            have HP := hide hp
            have HWP := hide hw
            have HWA := hide (bc (unhide HWX) hw)
            clear hp hw
            have j0 : (0 : Int) ≤ (i : Int) := Int.natCast_nonneg _
            go_wp2_with fail
            refine (at_any a2 len2 cap2 wr.heap.size zs2 1 5 _ (code_bel (unhide HC2) (unhide HWA)) hl2 (by omega) (by omega)).mono ?_
            rintro e V1 ⟨r, rfl, r0, r1, hb⟩
            have wr1 : IntKind.i64.wrap (1 + r) = 1 + r := wrap_i (by omega) (by omega)
            have HP1 := hide ((unhide HP).below hb)
            have HWP1 := hide (bc (unhide HWP) hb)
            have HWA1 := hide (bc (unhide HWA) hb)
            clear hb HP HWP HWA
            by_cases h9 : (i : Int) < 1 + r
            · have iz9 : decide ((i : Int) < 1 + r) = true := decide_eq_true h9
              have wi2 : IntKind.i64.wrap ((i : Int) + 2) = (i : Int) + 2 := wrap_i (by omega) (by omega)
              go_wp2_with fail
              refine (at_any a2 len2 cap2 V1.heap.size zs2 ((i : Int) + 2) 60 _ (code_bel (unhide HC2) (unhide HWA1)) hl2 (by omega) (by omega)).mono ?_
              rintro e V2 ⟨r2, rfl, r20, r21, hb⟩
              obtain ⟨q2, rfl⟩ : ∃ q : Nat, r2 = (q : Int) := ⟨r2.toNat, by omega⟩
              obtain ⟨m2, hm2⟩ : ∃ m, q2 + 1 = m := ⟨_, rfl⟩
              have wn2 : IntKind.i64.wrap (1 + (q2 : Int)) = (m2 : Int) := by rw [show 1 + (q2 : Int) = (m2 : Int) by omega]; exact wrap_i (by omega) (by omega)
              obtain ⟨pu, fpu⟩ := pulse_7 m2 (by omega)
              have qpu := run_q fpu 28
              have HP2 := hide ((unhide HP1).below hb)
              have HWP2 := hide (bc (unhide HWP1) hb)
              clear hb HP1 HWP1 HWA1 hm2 fpu r20 r21
              go_wp2_with (at_builtin; refine unhide ?_)
              refine hide ?_
              refine wpList_append_own _ rfl _ _ 35 rfl W7.heap.size 28 iI _ 1 8 Try.underlying35 (unhide HI1) (unhide HY0) (unhide HY1) (unhide HY2) rfl (by decide) _ _ _ rfl (World.ownsRow.alloc (unhide HP2) _) _ 1 1 ([pu].map (Value.float .f64)) rfl rfl (by first | exact news_cells _ _ rfl | exact news_cells _ _ (by simp) | exact news_drew _ _ (by simp)) flts_one (by unfold maxLen; omega) (by omega) (by have := (unhide HWP2).size; simp; omega) ?_
              intro v' w1' hown hgrow _
              obtain ⟨hrow, hbel⟩ := fown_more (fk := .f64) (wr := V2) (ba (Below.refl _ _) _ |>.mono (unhide HWP2).size) (by have := (unhide HWP2).size; simp; omega) (unhide HP2) hown hgrow
              obtain ⟨g9, c9, hrr, _⟩ := hrow.full (by omega)
              subst hrr
              have HROW := hide hrow
              have HWP9 := hide ((unhide HWP2).trans hbel)
              clear hrow hbel hown hgrow
              go_wp2_with fail
              go_roundw
              case rel => exact ⟨i + 1, g9, c9, P ++ [pu], rfl, by simp, by omega, unhide HROW, unhide HWP9⟩
              case measure => simp only [intOf]; omega
            · have iz9 : decide ((i : Int) < 1 + r) = false := decide_eq_false h9
              have i1' : 1 ≤ i := by omega
              have HRA := hide ((unhide HRX).below (unhide HWP1))
              have HPL : Hid (P.length = i) := hide (by have := (unhide HP1).len; omega)
              go_wp2_with fail
              refine (ldP_any (some ⟨gm, 0, none⟩) (some ⟨gp, 0, none⟩) gm 0 gp 0 n cm i cp L P _ (unhide HL) (by omega) ((unhide HRA).fls3 (by omega)) (unhide HPL) (by omega) ((unhide HP1).fls3 (by omega))).mono ?_
              rintro e V3 ⟨⟨b, rfl, hbv⟩, hb⟩
              have HBV := hide hbv
              have HRB := hide ((unhide HRA).below hb)
              have HPB := hide ((unhide HP1).below hb)
              have HWB := hide (bc (unhide HWA1) hb)
              clear hbv hb HRA HP1 HWP1 HWA1
              go_wp2_with fail
              refine (ldM_any (some ⟨gm, 0, none⟩) (some ⟨gp, 0, none⟩) gm 0 gp 0 n cm i cp L P _ (unhide HL) (by omega) ((unhide HRB).fls3 (by omega)) (unhide HPL) (by omega) ((unhide HPB).fls3 (by omega))).mono ?_
              rintro e V4 ⟨⟨b2, rfl, _⟩, hb⟩
              have HRC := hide ((unhide HRB).below hb)
              have HPC := hide ((unhide HPB).below hb)
              have HWC := hide (bc (unhide HWB) hb)
              clear hb HRB HPB HWB
              generalize hC : (ldR n i L P).1 = C
              generalize hK : (ldR n i L P).2.1 = K
              by_cases hz : C = 0
              · subst hz
                have hG := ldR_ok hC
                have HG : Hid ((ldG n L P i).1 = 0) := hide (by rw [← hG]; exact hC)
                have HBG : Hid (Fv .f64 b = (ldG n L P i).2.2) := hide (by rw [← hG]; exact unhide HBV)
                clear hC hK hG HBV
                go_wp2_with fail
                go_loopw [27] (fun s W => ∃ j : Nat, s = .int .i64 (j : Int) ∧ j ≤ i ∧ Below V4.heap.size V4 W) (fun s _ => i - (intOf s).toNat)
                case atStart => exact ⟨0, rfl, Nat.zero_le _, Below.refl _ _⟩
                case round =>
                  obtain ⟨j, rfl, hj, hw⟩ := hrel
                  have HWD := hide hw
                  clear hw
                  have jj0 : (0 : Int) ≤ (j : Int) := Int.natCast_nonneg _
                  by_cases h8 : j < i
                  · have j1 : (j : Int) < (i : Int) := by omega
                    have jz : decide ((j : Int) < (i : Int)) = true := decide_eq_true j1
                    obtain ⟨x, hx⟩ := get_some (unhide HPL) h8
                    have exx : P.getD j 0 = x := by rw [List.getD_eq_getElem?_getD, hx]; rfl
                    have hcj := ldG_all i (unhide HG) j h8
                    rw [exx] at hcj
                    have cpx := ((unhide HPC).below (unhide HWD)).cellAt hx
                    have HCJ := hide hcj
                    have HEX := hide exx
                    have HRD := hide ((unhide HRC).below (unhide HWD))
                    clear hcj exx hx
                    go_wp2_with fail
                    refine (swayP_any (some ⟨gm, 0, none⟩) gm 0 n cm L x _ (unhide HL) (by omega) ((unhide HRD).fls3 (by omega))).mono ?_
                    rintro e V5 ⟨⟨v, rfl, hF⟩, hb⟩
                    rw [unhide HCJ]
                    obtain ⟨m, g, cap', t0, t1', hnm, _, rfl, d0, d1, ht⟩ := last_tone (unhide HCJ) hF
                    have wm : IntKind.i64.wrap ((n : Int) - 1) = (m : Int) := by rw [show (n : Int) - 1 = (m : Int) by omega]; exact wrap_i (by omega) (by omega)
                    have m0 : (0 : Int) ≤ (m : Int) := Int.natCast_nonneg _
                    have mlt : (m : Int) < (n : Int) := by omega
                    have mlt2 : m < n := by omega
                    have HT5 := hide ht
                    have HWE := hide (bc (unhide HWD) hb)
                    clear hF hb hnm ht HWD
                    go_wp2_with fail
                    refine upon_flt (by simp) ?_
                    intro y1 m1 hy1
                    have HY1' := hide hy1
                    clear hy1
                    go_wp2_with fail
                    refine upon_flt (by simp) ?_
                    intro y2 m2 hy2
                    have HY2' := hide hy2
                    clear hy2
                    go_wp2_with fail
                    refine upon_flt (by simp) ?_
                    intro y3 m3 hy3
                    have HY3' := hide hy3
                    clear hy3
                    go_wp2_with fail
                    refine upon_flt (by simp) ?_
                    intro y4 m4 hy4
                    have HY4' := hide hy4
                    clear hy4
                    go_wp2_with fail
                    refine upon_flt (by simp) ?_
                    intro y5 m5 hy5
                    have hy3' : Fv .f64 y3 = lod n L (P.getD j 0) := by
                      rw [unhide HEX, ← unhide HT5, unhide HY3', unhide HY1', unhide HY2']
                      rfl
                    have ho := loud_ok (unhide HG) h8 hy3' (unhide HBG) (unhide HY4') hy5
                    clear hy5 hy3'
                    go_wp2_with fail
                    go_roundw
                    case rel => exact ⟨j + 1, by simp, by omega, by repeat (first | exact unhide HWE | refine Below.drew ?_ | refine bel_dn' ?_ _ | refine ba ?_ _)⟩
                    case measure => simp only [intOf]; omega
                  · have jz : decide ((j : Int) < (i : Int)) = false := decide_eq_false (by omega)
                    have j1 : ¬ (j : Int) < (i : Int) := by omega
                    go_wp2_with fail
                    exact bodyPost_ret (v := .bool true) (by simp [results, Try.results3, go_sem]) rfl ⟨rfl, bc (unhide HWC) (unhide HWD)⟩
              · have hK0 : K = 0 := by rw [← hK]; exact ldR_zero (by rw [hC]; exact hz)
                subst hK0
                have cz : (C != 0) = true := by simp [hz]
                clear hC hK
                go_wp2_with fail
                exact bodyPost_ret (v := .bool true) (by simp [results, Try.results3, go_sem]) rfl ⟨rfl, unhide HWC⟩
        | true =>
          obtain ⟨t0, t1', p1, p2', xx, p3, p4, yy, h2⟩ := (unhide HTWO) hgt
          have hsw := h2.sw
          have hz0 : R5[0]? = some t0 ∧ R5[1]? = some t1' := by
            have hf := unhide HF5
            rw [hsw] at hf
            have e0 : (R5.map (Fv .f64))[0]? = some (some t0) := by rw [hf]; rfl
            have e1 : (R5.map (Fv .f64))[1]? = some (some t1') := by rw [hf]; rfl
            rw [List.getElem?_map] at e0 e1
            obtain ⟨z0, g0, g1⟩ := map_some' e0
            obtain ⟨z1, g2, g3⟩ := map_some' e1
            have := fv_same g1
            have := fv_same g3
            subst_vars
            exact ⟨g0, g2⟩
          have Z0 := hide hz0.1
          have Z1 := hide hz0.2
          have H2 := hide h2
          clear h2 hsw hz0 HF5
          go_wp2_with fail
          refine Go.Code.wp_mono (Only.to (fun _ _ h => h)) (sy22 (t0 := t0) (t1 := t1') (p1 := p1) (p2 := p2') (xx := xx) (hide (run_q (unhide H2).g1 28)) (hide (run_q (unhide H2).g2 28)) (hide (run_q (unhide H2).g3 28)) (hide ((unhide HZ7).cellAt (unhide Z0))) (hide ((unhide HZ7).cellAt (unhide Z1))) ?_)
          intro W8 hb8
          have HR8 := hide ((unhide HR7).below hb8)
          have HW8 := hide (bc (unhide HW7) hb8)
          have HZ8 := hide ((unhide HZ7).below hb8)
          clear hb8 HR7 HW7 HZ7 c1 lgm
          go_wp2_with fail
          refine Go.Code.wp_mono (Only.to (fun _ _ h => h)) (sy23 (t0 := t0) (t1 := t1') (p1 := p3) (p2 := p4) (xx := yy) (hide (run_q (unhide H2).g4 28)) (hide (run_q (unhide H2).g5 28)) (hide (run_q (unhide H2).g6 28)) (hide ((unhide HZ8).cellAt (unhide Z0))) (hide ((unhide HZ8).cellAt (unhide Z1))) ?_)
          intro W9 hb9
          have HRX := hide ((unhide HR8).below hb9)
          have HWX := hide (bc (unhide HW8) hb9)
          clear hb9 HR8 HW8 HZ8 Z0 Z1
          go_wp2_with fail
          refine ((unhide H2).cx _).mono ?_
          rintro e w' ⟨rfl, hq⟩
          rw [hq]
          clear hq
          go_wp2_with fail
          refine ((unhide H2).cy _).mono ?_
          rintro e w' ⟨rfl, hq⟩
          rw [hq]
          clear hq H2
          go_wp2_with fail
          have HP0 := hide (frow_made (fk := .f64) W9 28 W9.heap.size 1 (Nat.le_refl _) W9.heap.size rfl)
          go_loopw [19, 20] (fun s t W => ∃ (i gp cp : Nat) (P : List Nat), s = .slice (some ⟨gp, 0, none⟩) i cp ∧ t = .int .i64 (i : Int) ∧ i ≤ 5 ∧ FRow .f64 W W9.heap.size 28 1 (.slice (some ⟨gp, 0, none⟩) i cp) i P ∧ Below W9.heap.size W9 W) (fun _ s _ => 6 - (intOf s).toNat)
          case atStart => exact ⟨0, _, 0, [], rfl, rfl, by omega, unhide HP0, ba (Below.refl _ _) _⟩
          case round =>
            clear HP0
            obtain ⟨i, gp, cp, P, rfl, rfl, hi5, hp, hw⟩ := hrel
            have HP := hide hp
            have HWP := hide hw
            have HWA := hide (bc (unhide HWX) hw)
            clear hp hw
            have j0 : (0 : Int) ≤ (i : Int) := Int.natCast_nonneg _
            go_wp2_with fail
            refine (at_any a2 len2 cap2 wr.heap.size zs2 1 5 _ (code_bel (unhide HC2) (unhide HWA)) hl2 (by omega) (by omega)).mono ?_
            rintro e V1 ⟨r, rfl, r0, r1, hb⟩
            have wr1 : IntKind.i64.wrap (1 + r) = 1 + r := wrap_i (by omega) (by omega)
            have HP1 := hide ((unhide HP).below hb)
            have HWP1 := hide (bc (unhide HWP) hb)
            have HWA1 := hide (bc (unhide HWA) hb)
            clear hb HP HWP HWA
            by_cases h9 : (i : Int) < 1 + r
            · have iz9 : decide ((i : Int) < 1 + r) = true := decide_eq_true h9
              have wi2 : IntKind.i64.wrap ((i : Int) + 2) = (i : Int) + 2 := wrap_i (by omega) (by omega)
              go_wp2_with fail
              refine (at_any a2 len2 cap2 V1.heap.size zs2 ((i : Int) + 2) 60 _ (code_bel (unhide HC2) (unhide HWA1)) hl2 (by omega) (by omega)).mono ?_
              rintro e V2 ⟨r2, rfl, r20, r21, hb⟩
              obtain ⟨q2, rfl⟩ : ∃ q : Nat, r2 = (q : Int) := ⟨r2.toNat, by omega⟩
              obtain ⟨m2, hm2⟩ : ∃ m, q2 + 1 = m := ⟨_, rfl⟩
              have wn2 : IntKind.i64.wrap (1 + (q2 : Int)) = (m2 : Int) := by rw [show 1 + (q2 : Int) = (m2 : Int) by omega]; exact wrap_i (by omega) (by omega)
              obtain ⟨pu, fpu⟩ := pulse_7 m2 (by omega)
              have qpu := run_q fpu 28
              have HP2 := hide ((unhide HP1).below hb)
              have HWP2 := hide (bc (unhide HWP1) hb)
              clear hb HP1 HWP1 HWA1 hm2 fpu r20 r21
              go_wp2_with (at_builtin; refine unhide ?_)
              refine hide ?_
              refine wpList_append_own _ rfl _ _ 35 rfl W9.heap.size 28 iI _ 1 8 Try.underlying35 (unhide HI1) (unhide HY0) (unhide HY1) (unhide HY2) rfl (by decide) _ _ _ rfl (World.ownsRow.alloc (unhide HP2) _) _ 1 1 ([pu].map (Value.float .f64)) rfl rfl (by first | exact news_cells _ _ rfl | exact news_cells _ _ (by simp) | exact news_drew _ _ (by simp)) flts_one (by unfold maxLen; omega) (by omega) (by have := (unhide HWP2).size; simp; omega) ?_
              intro v' w1' hown hgrow _
              obtain ⟨hrow, hbel⟩ := fown_more (fk := .f64) (wr := V2) (ba (Below.refl _ _) _ |>.mono (unhide HWP2).size) (by have := (unhide HWP2).size; simp; omega) (unhide HP2) hown hgrow
              obtain ⟨g9, c9, hrr, _⟩ := hrow.full (by omega)
              subst hrr
              have HROW := hide hrow
              have HWP9 := hide ((unhide HWP2).trans hbel)
              clear hrow hbel hown hgrow
              go_wp2_with fail
              go_roundw
              case rel => exact ⟨i + 1, g9, c9, P ++ [pu], rfl, by simp, by omega, unhide HROW, unhide HWP9⟩
              case measure => simp only [intOf]; omega
            · have iz9 : decide ((i : Int) < 1 + r) = false := decide_eq_false h9
              have i1' : 1 ≤ i := by omega
              have HRA := hide ((unhide HRX).below (unhide HWP1))
              have HPL : Hid (P.length = i) := hide (by have := (unhide HP1).len; omega)
              go_wp2_with fail
              refine (ldP_any (some ⟨gm, 0, none⟩) (some ⟨gp, 0, none⟩) gm 0 gp 0 n cm i cp L P _ (unhide HL) (by omega) ((unhide HRA).fls3 (by omega)) (unhide HPL) (by omega) ((unhide HP1).fls3 (by omega))).mono ?_
              rintro e V3 ⟨⟨b, rfl, hbv⟩, hb⟩
              have HBV := hide hbv
              have HRB := hide ((unhide HRA).below hb)
              have HPB := hide ((unhide HP1).below hb)
              have HWB := hide (bc (unhide HWA1) hb)
              clear hbv hb HRA HP1 HWP1 HWA1
              go_wp2_with fail
              refine (ldM_any (some ⟨gm, 0, none⟩) (some ⟨gp, 0, none⟩) gm 0 gp 0 n cm i cp L P _ (unhide HL) (by omega) ((unhide HRB).fls3 (by omega)) (unhide HPL) (by omega) ((unhide HPB).fls3 (by omega))).mono ?_
              rintro e V4 ⟨⟨b2, rfl, _⟩, hb⟩
              have HRC := hide ((unhide HRB).below hb)
              have HPC := hide ((unhide HPB).below hb)
              have HWC := hide (bc (unhide HWB) hb)
              clear hb HRB HPB HWB
              generalize hC : (ldR n i L P).1 = C
              generalize hK : (ldR n i L P).2.1 = K
              by_cases hz : C = 0
              · subst hz
                have hG := ldR_ok hC
                have HG : Hid ((ldG n L P i).1 = 0) := hide (by rw [← hG]; exact hC)
                have HBG : Hid (Fv .f64 b = (ldG n L P i).2.2) := hide (by rw [← hG]; exact unhide HBV)
                clear hC hK hG HBV
                go_wp2_with fail
                go_loopw [27] (fun s W => ∃ j : Nat, s = .int .i64 (j : Int) ∧ j ≤ i ∧ Below V4.heap.size V4 W) (fun s _ => i - (intOf s).toNat)
                case atStart => exact ⟨0, rfl, Nat.zero_le _, Below.refl _ _⟩
                case round =>
                  obtain ⟨j, rfl, hj, hw⟩ := hrel
                  have HWD := hide hw
                  clear hw
                  have jj0 : (0 : Int) ≤ (j : Int) := Int.natCast_nonneg _
                  by_cases h8 : j < i
                  · have j1 : (j : Int) < (i : Int) := by omega
                    have jz : decide ((j : Int) < (i : Int)) = true := decide_eq_true j1
                    obtain ⟨x, hx⟩ := get_some (unhide HPL) h8
                    have exx : P.getD j 0 = x := by rw [List.getD_eq_getElem?_getD, hx]; rfl
                    have hcj := ldG_all i (unhide HG) j h8
                    rw [exx] at hcj
                    have cpx := ((unhide HPC).below (unhide HWD)).cellAt hx
                    have HCJ := hide hcj
                    have HEX := hide exx
                    have HRD := hide ((unhide HRC).below (unhide HWD))
                    clear hcj exx hx
                    go_wp2_with fail
                    refine (swayP_any (some ⟨gm, 0, none⟩) gm 0 n cm L x _ (unhide HL) (by omega) ((unhide HRD).fls3 (by omega))).mono ?_
                    rintro e V5 ⟨⟨v, rfl, hF⟩, hb⟩
                    rw [unhide HCJ]
                    obtain ⟨m, g, cap', t0, t1', hnm, _, rfl, d0, d1, ht⟩ := last_tone (unhide HCJ) hF
                    have wm : IntKind.i64.wrap ((n : Int) - 1) = (m : Int) := by rw [show (n : Int) - 1 = (m : Int) by omega]; exact wrap_i (by omega) (by omega)
                    have m0 : (0 : Int) ≤ (m : Int) := Int.natCast_nonneg _
                    have mlt : (m : Int) < (n : Int) := by omega
                    have mlt2 : m < n := by omega
                    have HT5 := hide ht
                    have HWE := hide (bc (unhide HWD) hb)
                    clear hF hb hnm ht HWD
                    go_wp2_with fail
                    refine upon_flt (by simp) ?_
                    intro y1 m1 hy1
                    have HY1' := hide hy1
                    clear hy1
                    go_wp2_with fail
                    refine upon_flt (by simp) ?_
                    intro y2 m2 hy2
                    have HY2' := hide hy2
                    clear hy2
                    go_wp2_with fail
                    refine upon_flt (by simp) ?_
                    intro y3 m3 hy3
                    have HY3' := hide hy3
                    clear hy3
                    go_wp2_with fail
                    refine upon_flt (by simp) ?_
                    intro y4 m4 hy4
                    have HY4' := hide hy4
                    clear hy4
                    go_wp2_with fail
                    refine upon_flt (by simp) ?_
                    intro y5 m5 hy5
                    have hy3' : Fv .f64 y3 = lod n L (P.getD j 0) := by
                      rw [unhide HEX, ← unhide HT5, unhide HY3', unhide HY1', unhide HY2']
                      rfl
                    have ho := loud_ok (unhide HG) h8 hy3' (unhide HBG) (unhide HY4') hy5
                    clear hy5 hy3'
                    go_wp2_with fail
                    go_roundw
                    case rel => exact ⟨j + 1, by simp, by omega, by repeat (first | exact unhide HWE | refine Below.drew ?_ | refine bel_dn' ?_ _ | refine ba ?_ _)⟩
                    case measure => simp only [intOf]; omega
                  · have jz : decide ((j : Int) < (i : Int)) = false := decide_eq_false (by omega)
                    have j1 : ¬ (j : Int) < (i : Int) := by omega
                    go_wp2_with fail
                    exact bodyPost_ret (v := .bool true) (by simp [results, Try.results3, go_sem]) rfl ⟨rfl, bc (unhide HWC) (unhide HWD)⟩
              · have hK0 : K = 0 := by rw [← hK]; exact ldR_zero (by rw [hC]; exact hz)
                subst hK0
                have cz : (C != 0) = true := by simp [hz]
                clear hC hK
                go_wp2_with fail
                exact bodyPost_ret (v := .bool true) (by simp [results, Try.results3, go_sem]) rfl ⟨rfl, unhide HWC⟩
      · have e5 : swN 1 [x0, x1, x2] wb = 0 := by unfold swN; rw [if_neg hC1]
        rw [e5] at hr5
        have e5H := hide e5
        clear e5
        obtain ⟨u5, c5, rfl, _⟩ := hr5.form
        generalize hCC : swC 1 [x0, x1, x2] wb = C1 at *
        have HCC := hide hCC
        have HNC := hide hC1
        clear hr5 hf5 hb hCC hC1
        go_wp2_with fail
        refine (swayM_any (some ⟨gm, 0, none⟩) gm 0 1 cm [x0, x1, x2] wb _ rfl (by omega) (unhide HFT5)).mono ?_
        rintro e W6 ⟨⟨v6, rfl, hF6⟩, hb6⟩
        have HR6 := hide ((unhide HR5).below hb6)
        have HW6 := hide (bc (unhide HW5) hb6)
        obtain ⟨R6, hr6, _⟩ := hF6
        have e6 : swN 1 [x0, x1, x2] wb = 0 := unhide e5H
        rw [e6] at hr6
        rw [unhide HCC]
        obtain ⟨u6, c6, rfl, _⟩ := hr6.form
        have hcz : (C1 == 0) = false := by have := unhide HNC; simp [this]
        have hcz2 : ¬ C1 = 0 := unhide HNC
        clear hr6 hb6 HCC HNC HR5 HW5 HFT5 e6
        go_wp2_with fail
        refine Go.Code.wp_mono (Only.to (fun _ _ h => h)) (sy19 (x0 := x0) (x2 := x2) (q1 := q1) (q2 := q2) (re := re) f1 f2 f3 (hide ((unhide HR6).cellAt (unhide K2))) (hide ((unhide HR6).cellAt (unhide K0))) (hide (show 0 < n by omega)) (hide (show 0 < n by omega)) ?_)
        intro W7 hb7
        have HR7 := hide ((unhide HR6).below hb7)
        have HW7 := hide (bc (unhide HW6) hb7)
        have c1 : W7.cell? ⟨gm, 1, none⟩ = some (.float .f64 x1) := (unhide HR7).cellAt (unhide K1)
        have lgm := cell_lt c1
        clear hb7 HR6 HW6
        have HRX := HR7
        have HWX := HW7
        clear HR7 HW7
        go_wp2_with fail
        have HP0 := hide (frow_made (fk := .f64) W7 28 W7.heap.size 1 (Nat.le_refl _) W7.heap.size rfl)
        go_loopw [19, 20] (fun s t W => ∃ (i gp cp : Nat) (P : List Nat), s = .slice (some ⟨gp, 0, none⟩) i cp ∧ t = .int .i64 (i : Int) ∧ i ≤ 5 ∧ FRow .f64 W W7.heap.size 28 1 (.slice (some ⟨gp, 0, none⟩) i cp) i P ∧ Below W7.heap.size W7 W) (fun _ s _ => 6 - (intOf s).toNat)
        case atStart => exact ⟨0, _, 0, [], rfl, rfl, by omega, unhide HP0, ba (Below.refl _ _) _⟩
        case round =>
          clear HP0
          obtain ⟨i, gp, cp, P, rfl, rfl, hi5, hp, hw⟩ := hrel
          have HP := hide hp
          have HWP := hide hw
          have HWA := hide (bc (unhide HWX) hw)
          clear hp hw
          have j0 : (0 : Int) ≤ (i : Int) := Int.natCast_nonneg _
          go_wp2_with fail
          refine (at_any a2 len2 cap2 wr.heap.size zs2 1 5 _ (code_bel (unhide HC2) (unhide HWA)) hl2 (by omega) (by omega)).mono ?_
          rintro e V1 ⟨r, rfl, r0, r1, hb⟩
          have wr1 : IntKind.i64.wrap (1 + r) = 1 + r := wrap_i (by omega) (by omega)
          have HP1 := hide ((unhide HP).below hb)
          have HWP1 := hide (bc (unhide HWP) hb)
          have HWA1 := hide (bc (unhide HWA) hb)
          clear hb HP HWP HWA
          by_cases h9 : (i : Int) < 1 + r
          · have iz9 : decide ((i : Int) < 1 + r) = true := decide_eq_true h9
            have wi2 : IntKind.i64.wrap ((i : Int) + 2) = (i : Int) + 2 := wrap_i (by omega) (by omega)
            go_wp2_with fail
            refine (at_any a2 len2 cap2 V1.heap.size zs2 ((i : Int) + 2) 60 _ (code_bel (unhide HC2) (unhide HWA1)) hl2 (by omega) (by omega)).mono ?_
            rintro e V2 ⟨r2, rfl, r20, r21, hb⟩
            obtain ⟨q2, rfl⟩ : ∃ q : Nat, r2 = (q : Int) := ⟨r2.toNat, by omega⟩
            obtain ⟨m2, hm2⟩ : ∃ m, q2 + 1 = m := ⟨_, rfl⟩
            have wn2 : IntKind.i64.wrap (1 + (q2 : Int)) = (m2 : Int) := by rw [show 1 + (q2 : Int) = (m2 : Int) by omega]; exact wrap_i (by omega) (by omega)
            obtain ⟨pu, fpu⟩ := pulse_7 m2 (by omega)
            have qpu := run_q fpu 28
            have HP2 := hide ((unhide HP1).below hb)
            have HWP2 := hide (bc (unhide HWP1) hb)
            clear hb HP1 HWP1 HWA1 hm2 fpu r20 r21
            go_wp2_with (at_builtin; refine unhide ?_)
            refine hide ?_
            refine wpList_append_own _ rfl _ _ 35 rfl W7.heap.size 28 iI _ 1 8 Try.underlying35 (unhide HI1) (unhide HY0) (unhide HY1) (unhide HY2) rfl (by decide) _ _ _ rfl (World.ownsRow.alloc (unhide HP2) _) _ 1 1 ([pu].map (Value.float .f64)) rfl rfl (by first | exact news_cells _ _ rfl | exact news_cells _ _ (by simp) | exact news_drew _ _ (by simp)) flts_one (by unfold maxLen; omega) (by omega) (by have := (unhide HWP2).size; simp; omega) ?_
            intro v' w1' hown hgrow _
            obtain ⟨hrow, hbel⟩ := fown_more (fk := .f64) (wr := V2) (ba (Below.refl _ _) _ |>.mono (unhide HWP2).size) (by have := (unhide HWP2).size; simp; omega) (unhide HP2) hown hgrow
            obtain ⟨g9, c9, hrr, _⟩ := hrow.full (by omega)
            subst hrr
            have HROW := hide hrow
            have HWP9 := hide ((unhide HWP2).trans hbel)
            clear hrow hbel hown hgrow
            go_wp2_with fail
            go_roundw
            case rel => exact ⟨i + 1, g9, c9, P ++ [pu], rfl, by simp, by omega, unhide HROW, unhide HWP9⟩
            case measure => simp only [intOf]; omega
          · have iz9 : decide ((i : Int) < 1 + r) = false := decide_eq_false h9
            have i1' : 1 ≤ i := by omega
            have HRA := hide ((unhide HRX).below (unhide HWP1))
            have HPL : Hid (P.length = i) := hide (by have := (unhide HP1).len; omega)
            go_wp2_with fail
            refine (ldP_any (some ⟨gm, 0, none⟩) (some ⟨gp, 0, none⟩) gm 0 gp 0 n cm i cp L P _ (unhide HL) (by omega) ((unhide HRA).fls3 (by omega)) (unhide HPL) (by omega) ((unhide HP1).fls3 (by omega))).mono ?_
            rintro e V3 ⟨⟨b, rfl, hbv⟩, hb⟩
            have HBV := hide hbv
            have HRB := hide ((unhide HRA).below hb)
            have HPB := hide ((unhide HP1).below hb)
            have HWB := hide (bc (unhide HWA1) hb)
            clear hbv hb HRA HP1 HWP1 HWA1
            go_wp2_with fail
            refine (ldM_any (some ⟨gm, 0, none⟩) (some ⟨gp, 0, none⟩) gm 0 gp 0 n cm i cp L P _ (unhide HL) (by omega) ((unhide HRB).fls3 (by omega)) (unhide HPL) (by omega) ((unhide HPB).fls3 (by omega))).mono ?_
            rintro e V4 ⟨⟨b2, rfl, _⟩, hb⟩
            have HRC := hide ((unhide HRB).below hb)
            have HPC := hide ((unhide HPB).below hb)
            have HWC := hide (bc (unhide HWB) hb)
            clear hb HRB HPB HWB
            generalize hC : (ldR n i L P).1 = C
            generalize hK : (ldR n i L P).2.1 = K
            by_cases hz : C = 0
            · subst hz
              have hG := ldR_ok hC
              have HG : Hid ((ldG n L P i).1 = 0) := hide (by rw [← hG]; exact hC)
              have HBG : Hid (Fv .f64 b = (ldG n L P i).2.2) := hide (by rw [← hG]; exact unhide HBV)
              clear hC hK hG HBV
              go_wp2_with fail
              go_loopw [27] (fun s W => ∃ j : Nat, s = .int .i64 (j : Int) ∧ j ≤ i ∧ Below V4.heap.size V4 W) (fun s _ => i - (intOf s).toNat)
              case atStart => exact ⟨0, rfl, Nat.zero_le _, Below.refl _ _⟩
              case round =>
                obtain ⟨j, rfl, hj, hw⟩ := hrel
                have HWD := hide hw
                clear hw
                have jj0 : (0 : Int) ≤ (j : Int) := Int.natCast_nonneg _
                by_cases h8 : j < i
                · have j1 : (j : Int) < (i : Int) := by omega
                  have jz : decide ((j : Int) < (i : Int)) = true := decide_eq_true j1
                  obtain ⟨x, hx⟩ := get_some (unhide HPL) h8
                  have exx : P.getD j 0 = x := by rw [List.getD_eq_getElem?_getD, hx]; rfl
                  have hcj := ldG_all i (unhide HG) j h8
                  rw [exx] at hcj
                  have cpx := ((unhide HPC).below (unhide HWD)).cellAt hx
                  have HCJ := hide hcj
                  have HEX := hide exx
                  have HRD := hide ((unhide HRC).below (unhide HWD))
                  clear hcj exx hx
                  go_wp2_with fail
                  refine (swayP_any (some ⟨gm, 0, none⟩) gm 0 n cm L x _ (unhide HL) (by omega) ((unhide HRD).fls3 (by omega))).mono ?_
                  rintro e V5 ⟨⟨v, rfl, hF⟩, hb⟩
                  rw [unhide HCJ]
                  obtain ⟨m, g, cap', t0, t1', hnm, _, rfl, d0, d1, ht⟩ := last_tone (unhide HCJ) hF
                  have wm : IntKind.i64.wrap ((n : Int) - 1) = (m : Int) := by rw [show (n : Int) - 1 = (m : Int) by omega]; exact wrap_i (by omega) (by omega)
                  have m0 : (0 : Int) ≤ (m : Int) := Int.natCast_nonneg _
                  have mlt : (m : Int) < (n : Int) := by omega
                  have mlt2 : m < n := by omega
                  have HT5 := hide ht
                  have HWE := hide (bc (unhide HWD) hb)
                  clear hF hb hnm ht HWD
                  go_wp2_with fail
                  refine upon_flt (by simp) ?_
                  intro y1 m1 hy1
                  have HY1' := hide hy1
                  clear hy1
                  go_wp2_with fail
                  refine upon_flt (by simp) ?_
                  intro y2 m2 hy2
                  have HY2' := hide hy2
                  clear hy2
                  go_wp2_with fail
                  refine upon_flt (by simp) ?_
                  intro y3 m3 hy3
                  have HY3' := hide hy3
                  clear hy3
                  go_wp2_with fail
                  refine upon_flt (by simp) ?_
                  intro y4 m4 hy4
                  have HY4' := hide hy4
                  clear hy4
                  go_wp2_with fail
                  refine upon_flt (by simp) ?_
                  intro y5 m5 hy5
                  have hy3' : Fv .f64 y3 = lod n L (P.getD j 0) := by
                    rw [unhide HEX, ← unhide HT5, unhide HY3', unhide HY1', unhide HY2']
                    rfl
                  have ho := loud_ok (unhide HG) h8 hy3' (unhide HBG) (unhide HY4') hy5
                  clear hy5 hy3'
                  go_wp2_with fail
                  go_roundw
                  case rel => exact ⟨j + 1, by simp, by omega, by repeat (first | exact unhide HWE | refine Below.drew ?_ | refine bel_dn' ?_ _ | refine ba ?_ _)⟩
                  case measure => simp only [intOf]; omega
                · have jz : decide ((j : Int) < (i : Int)) = false := decide_eq_false (by omega)
                  have j1 : ¬ (j : Int) < (i : Int) := by omega
                  go_wp2_with fail
                  exact bodyPost_ret (v := .bool true) (by simp [results, Try.results3, go_sem]) rfl ⟨rfl, bc (unhide HWC) (unhide HWD)⟩
            · have hK0 : K = 0 := by rw [← hK]; exact ldR_zero (by rw [hC]; exact hz)
              subst hK0
              have cz : (C != 0) = true := by simp [hz]
              clear hC hK
              go_wp2_with fail
              exact bodyPost_ret (v := .bool true) (by simp [results, Try.results3, go_sem]) rfl ⟨rfl, unhide HWC⟩
-- gensyc
end Go.Proofs.Ytgocgcnpgmamiaa
