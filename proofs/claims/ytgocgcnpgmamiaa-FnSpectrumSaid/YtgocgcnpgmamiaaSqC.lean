/-
  The law of tones and of calmed numbers, walked.
-/
import Derived.Test.YtgocgcnpgmamiaaSqFact
import Derived.Test.YtgocgcnpgmamiaaSqR
import Derived.Test.YtgocgcnpgmamiaaSmD
import Derived.Test.YtgocgcnpgmamiaaAtD
import Derived.Test.YtgocgcnpgmamiaaSqMin
namespace Go.Proofs.Ytgocgcnpgmamiaa
open Go.ChangeShapes Go.WideShapes Go.ChangeAt Go.RowKit
set_option linter.unusedVariables false
set_option linter.unusedSimpArgs false
attribute [local go_sem] run_store_flt run_store_cpx

theorem code_bel {w w' : World} {a : Option Addr} {len cap : Nat} {zs : List Int} (h : Code w.heap.size w a len cap zs) (hb : Below w.heap.size w w') : Code w'.heap.size w' a len cap zs := by
  rcases h.mv (Mv.of_bel (g := w.heap.size) hb) (Nat.le_refl _) with h1 | ⟨b, off, h1, h2, h3, r⟩
  · exact .inl h1
  · exact .inr ⟨b, off, h1, h3, h3, r⟩
theorem run_q {op : BinOp} {k : FloatKind} {x y r : Nat} (h : floatBits op k x y = some r) (t : TypeId) : ∀ W : World, (binOp op t (.float k x) (.float k y)).run Try.prog W = .ok (.float k r) W := fun W => run_float_arith W op t k x y r h
theorem FRow.fls' {fk : FloatKind} {w : World} {B t n g cap : Nat} {L : List Nat} (h : FRow fk w B t 1 (.slice (some ⟨g, 0, none⟩) n cap) n L) (hn : n ≠ 0) : Fls fk w (some ⟨g, 0, none⟩) g 0 L := fun _ => by
  obtain ⟨g2, c2, e, _, h4, h5, _⟩ := h.full hn
  cases e
  exact ⟨rfl, h4, h5⟩

theorem clF_at (L : List Nat) (sh : Option Nat) (n i : Nat) (h : i < n) : (clF L sh n)[i]? = some (cl L sh i) := by
  induction n with
  | zero => omega
  | succ n ih =>
    simp only [clF]
    by_cases hi : i < n
    · rw [List.getElem?_append_left (by rw [clF_len]; omega)]
      exact ih hi
    · have : i = n := by omega
      subst this
      rw [List.getElem?_append_right (by rw [clF_len]; omega), clF_len, Nat.sub_self]
      rfl
set_option maxHeartbeats 8000000 in
set_option maxRecDepth 100000 in
theorem fnSpectrum_core (a a2 : Option Addr) (len cap len2 cap2 : Nat) (zs zs2 : List Int) (w : World) (hl : len ≤ 1048576) (hl2 : len2 ≤ 1048576) (hc : Code w.heap.size w a len cap zs) (hc2 : Code w.heap.size w a2 len2 cap2 zs2) :
    Calls Try.prog 4 #[.slice a len cap, .slice a2 len2 cap2] w fun e w' => e = .returned (.bool true) ∧ Below w.heap.size w w' := by
  have t1 : decide ((1048576 : Int) < (len : Int)) = false := decide_eq_false (by omega)
  have t2 : decide ((1048576 : Int) < (len2 : Int)) = false := decide_eq_false (by omega)
  have HSM : Hid (Calls Try.prog 16 #[.slice a len cap, .int .i64 8] w fun e w' => (∃ v R, e = .returned v ∧ FRow .f64 w' w.heap.size 28 1 v 8 R ∧ R.all smp = true) ∧ Below w.heap.size w w') := hide (samplesD a len cap zs 8 w hc (by omega) (by omega))
  have HC2 := hide hc2
  clear hc hc2
  go_enter Try.func4, Try.ntmps4
  go_wp2_with fail
  refine (unhide HSM).mono ?_
  rintro e W1 ⟨⟨v, L, rfl, hr, ha⟩, hb⟩
  obtain ⟨gx, cx, rfl, hgx, hlx, _⟩ := hr.full (by omega)
  have hL : L.length = 8 := by have := hr.len; omega
  have HR := hide hr
  have HA := hide ha
  have HL := hide hL
  have HRT := hide (rt_of hL ha)
  have HW1 := hide hb
  clear hr ha hL hb HSM
  go_wp2_with fail
  refine (spP_any (some ⟨gx, 0, none⟩) gx 0 8 cx L _ (unhide HL) (by omega) ((unhide HR).fls' (by omega))).mono ?_
  rintro e W2 ⟨⟨v, C, rfl, hv⟩, hb⟩
  obtain ⟨rfl, hF⟩ : C = 0 ∧ FAns .f64 W2 W1.heap.size 33 2 v 8 (spF L 8) := by
    rcases hv with ⟨h, _⟩ | ⟨_, h, _⟩ | ⟨_, _, h1, h2⟩
    · omega
    · rcases h with h | h
      · exact absurd rfl h
      · rw [unhide HA] at h; cases h
    · exact ⟨h1, h2⟩
  obtain ⟨T, hT, hTF⟩ := hF
  obtain ⟨gt, ct, rfl, hgt, hlt, _⟩ := hT.full (by omega)
  have HT := hide hT
  have HTF := hide hTF
  have HR2 := hide ((unhide HR).below hb)
  have HW2 := hide (bc (unhide HW1) hb)
  clear hv hT hTF hb HR HW1 hlx hgx hgt hlt
  obtain ⟨S, hS⟩ : ∃ S, S = Sv L := ⟨_, rfl⟩
  have HRS : Hid (Rt L S) := hide (by rw [hS]; exact unhide HRT)
  clear hS HRT
  go_wp2_with fail
  go_loopw [8, 9, 10, 11, 12] (fun s1 s2 s3 s4 s5 W => ∃ (i re im su sz : Nat), s1 = .float .f64 re ∧ s2 = .float .f64 im ∧ s3 = .float .f64 su ∧ s4 = .float .f64 sz ∧ s5 = .int .i64 (i : Int) ∧ i ≤ 8 ∧ L1 L S i re im su sz ∧ Below W2.heap.size W2 W) (fun _ _ _ _ s _ => 8 - (intOf s).toNat)
  case atStart => exact ⟨0, 0, 0, 0, _, rfl, rfl, rfl, rfl, rfl, Nat.zero_le _, L1.start (unhide HRS), Below.refl _ _⟩
  case round =>
    obtain ⟨i, re, im, su, sz, rfl, rfl, rfl, rfl, rfl, hi, h1, hw⟩ := hrel
    have H1 := hide h1
    have HW := hide hw
    clear h1 hw
    have i0 : (0 : Int) ≤ (i : Int) := Int.natCast_nonneg _
    by_cases h : i < 8
    · have i1 : (i : Int) < 8 := by omega
      have iz : decide ((i : Int) < 8) = true := decide_eq_true i1
      obtain ⟨ta, tb, ea, eb, ht⟩ := tone_at (unhide HRS) (unhide HTF) i h
      obtain ⟨r1, r2, r3, pp, r4, f1, f2, f3, f4, f5, hstep⟩ := (unhide H1).step (unhide HRS) h ht
      have hT3 := (unhide HT).below (unhide HW)
      have ca := hT3.cellAt ea
      have cb := hT3.cellAt eb
      have hX3 := (unhide HR2).below (unhide HW)
      obtain ⟨x, hx⟩ := get_some (unhide HL) h
      have ex : L.getD i 0 = x := by rw [List.getD_eq_getElem?_getD, hx]; rfl
      rw [ex] at f3 f4
      have cxx := hX3.cellAt hx
      have q1 := run_q f1 28
      have q2 := run_q f2 28
      have q3 := run_q f3 28
      have q4 := run_q f4 28
      have q5 := run_q f5 28
      have HST := hide hstep
      clear ea eb ht hstep hT3 hX3 hx ex f1 f2 f3 f4 f5
      go_wp2_with fail
      go_quiet (fail)
      go_wp2_with fail
      go_roundw
      case rel => exact ⟨i + 1, r1, r2, r3, r4, rfl, rfl, rfl, rfl, by simp, h, unhide HST, by repeat (first | exact unhide HW | refine Below.drew ?_ | refine bel_dn' ?_ _)⟩
      case measure => simp only [intOf]; omega
    · have iz : decide ((i : Int) < 8) = false := decide_eq_false (by omega)
      obtain rfl : i = 8 := by omega
      obtain ⟨ep, fe, ne, he⟩ := eps_of (unhide H1) (unhide HRS)
      obtain ⟨pp, rr, fp, fr, nr⟩ := end_re (unhide H1) (unhide HRS)
      have nim := end_im (unhide H1) (unhide HRS)
      obtain ⟨ta, tb, ea, eb, ht⟩ := tone_at (unhide HRS) (unhide HTF) 0 (by omega)
      obtain ⟨r0, f0, n0⟩ := end_t0 (unhide H1) (unhide HRS) ht
      have ni0 := end_i0 (unhide HRS) ht
      have hS1 := (unhide HRS).one
      obtain ⟨x, hx⟩ := get_some (unhide HL) (show 0 < 8 by omega)
      have ex : L.getD 0 0 = x := by rw [List.getD_eq_getElem?_getD, hx]; rfl
      rw [ex] at fp
      have ca : wr.cell? ⟨gt, 0, none⟩ = some (.float .f64 ta) := ((unhide HT).below (unhide HW)).cellAt ea
      have cb : wr.cell? ⟨gt, 1, none⟩ = some (.float .f64 tb) := ((unhide HT).below (unhide HW)).cellAt eb
      have cx0 : wr.cell? ⟨gx, 0, none⟩ = some (.float .f64 x) := ((unhide HR2).below (unhide HW)).cellAt hx
      have q1 := run_q fe 28
      have q2 := run_q fp 28
      have q3 := run_q fr 28
      have q4 := run_q f0 28
      have HWA := hide (fun W => near_within rr ep W hS1 nr ne he)
      have HWB := hide (fun W => near_within im ep W hS1 nim ne he)
      have HWC := hide (fun W => near_within r0 ep W hS1 n0 ne he)
      have HWD := hide (fun W => near_within tb ep W hS1 ni0 ne he)
      have HNE := hide ne
      have HHE := hide he
      clear fe ne he fp fr nr nim ea eb ht f0 n0 ni0 hS1 hx ex
      go_wp2_with fail
      refine (unhide HWA _).mono ?_
      rintro e w' ⟨rfl, hq⟩
      rw [hq]
      clear hq
      go_wp2_with fail
      refine (unhide HWB _).mono ?_
      rintro e w' ⟨rfl, hq⟩
      rw [hq]
      clear hq
      go_wp2_with fail
      refine (unhide HWC _).mono ?_
      rintro e w' ⟨rfl, hq⟩
      rw [hq]
      clear hq
      go_wp2_with fail
      refine (unhide HWD _).mono ?_
      rintro e w' ⟨rfl, hq⟩
      rw [hq]
      clear hq
      clear q1 q2 q3 q4 ca cb cx0 HWA HWB HWC HWD
      generalize hW3 : wr = W3 at *
      clear hW3
      go_wp2_with fail
      go_loopw [14] (fun s W => ∃ k : Nat, s = .int .i64 (k : Int) ∧ 1 ≤ k ∧ k ≤ 8 ∧ Below W3.heap.size W3 W) (fun s _ => 8 - (intOf s).toNat)
      case atStart => exact ⟨1, rfl, by omega, by omega, Below.refl _ _⟩
      case round =>
        obtain ⟨k, rfl, hk1, hk, hw⟩ := hrel
        have HW4 := hide hw
        clear hw
        have k0 : (0 : Int) ≤ (k : Int) := Int.natCast_nonneg _
        by_cases h2 : k < 8
        · have k1 : (k : Int) < 8 := by omega
          have kz : decide ((k : Int) < 8) = true := decide_eq_true k1
          obtain ⟨a0, a1, ea0, ea1, ha⟩ := tone_at (unhide HRS) (unhide HTF) k h2
          obtain ⟨b0, b1, eb0, eb1, hb⟩ := tone_at (unhide HRS) (unhide HTF) (8 - k) (by omega)
          obtain ⟨r1, r2, f1, f2, n1, n2⟩ := end_mirror (unhide HRS) hk1 h2 ha hb
          have hS1 := (unhide HRS).one
          have hT4 := ((unhide HT).below (unhide HW)).below (unhide HW4)
          obtain ⟨j, hj⟩ : ∃ j, 8 - k = j := ⟨_, rfl⟩
          rw [hj] at eb0 eb1
          have hj8 : j < 8 := by omega
          have wj : IntKind.i64.wrap (8 - (k : Int)) = (j : Int) := by rw [show (8 : Int) - (k : Int) = (j : Int) by omega]; exact wrap_i (by omega) (by omega)
          have c0 := hT4.cellAt ea0
          have c1 := hT4.cellAt ea1
          have c2 := hT4.cellAt eb0
          have c3 := hT4.cellAt eb1
          have Q1 := hide (run_q f1 28)
          have Q2 := hide (run_q f2 28)
          have HWA := hide (fun W => near_within r1 ep W hS1 n1 (unhide HNE) (unhide HHE))
          have HWB := hide (fun W => near_within r2 ep W hS1 n2 (unhide HNE) (unhide HHE))
          have WJ := hide wj
          clear ea0 ea1 ha eb0 eb1 hb f1 f2 n1 n2 hS1 hT4 hj wj
          go_wp2_with fail
          refine Go.Code.wp_mono (Only.to (fun _ _ h => h)) (sq24 (j := j) (r1 := r1) (r2 := r2) (a0 := a0) (a1 := a1) (b0 := b0) (b1 := b1) Q1 Q2 (hide c0) (hide c1) (hide c2) (hide c3) (hide h2) WJ (hide hj8) (hide fun Xw _ => (unhide HWA Xw).mono fun e w' ⟨g1, g2⟩ => ⟨g1, by rw [g2]; exact Below.refl _ _⟩) (hide h2) WJ (hide hj8) (hide fun Xw _ => (unhide HWB Xw).mono fun e w' ⟨g1, g2⟩ => ⟨g1, by rw [g2]; exact Below.refl _ _⟩) ?_)
          intro W5 hb5
          have HW5 := hide (bc (unhide HW4) hb5)
          clear hb5 c0 c1 c2 c3
          go_wp2_with fail
          go_roundw
          case rel => exact ⟨k + 1, by simp, by omega, h2, unhide HW5⟩
          case measure => simp only [intOf]; omega
        · have kz : decide ((k : Int) < 8) = false := decide_eq_false (by omega)
          have HW9 : Hid (Below w.heap.size w wr) := hide (bc (bc (unhide HW2) (unhide HW)) (unhide HW4))
          clear HW HW4 HT HTF HR2 HA HRS H1 HNE HHE HL HW2
          go_wp2_with fail
          refine (at_any a2 len2 cap2 wr.heap.size zs2 0 20 _ (code_bel (unhide HC2) (unhide HW9)) hl2 (by omega) (by omega)).mono ?_
          rintro e W6 ⟨r, rfl, r0, r1, hb⟩
          obtain ⟨q, rfl⟩ : ∃ q : Nat, r = (q : Int) := ⟨r.toNat, by omega⟩
          obtain ⟨n, hn⟩ : ∃ n, q + 1 = n := ⟨_, rfl⟩
          have wn : IntKind.i64.wrap (1 + (q : Int)) = (n : Int) := by rw [show 1 + (q : Int) = (n : Int) by omega]; exact wrap_i (by omega) (by omega)
          have n0 : n ≠ 0 := by omega
          have n20 : n ≤ 20 := by omega
          have HW6 := hide (bc (unhide HW9) hb)
          clear hb hn HW9 r0 r1
          go_wp2_with fail
          refine (samplesD a2 len2 cap2 zs2 n _ (code_bel (unhide HC2) (unhide HW6)) (by omega) (by omega)).mono ?_
          rintro e W7 ⟨⟨v, Y, rfl, hr, ha⟩, hb⟩
          obtain ⟨gy, cy, rfl, _⟩ := hr.full n0
          have HY := hide hr
          have HYA := hide ha
          have HYL : Hid (Y.length = n) := hide (by have := hr.len; omega)
          have HW7 := hide (bc (unhide HW6) hb)
          clear hr ha hb HW6 wn
          go_wp2_with fail
          refine (at_any a2 len2 cap2 W7.heap.size zs2 1 17 _ (code_bel (unhide HC2) (unhide HW7)) hl2 (by omega) (by omega)).mono ?_
          rintro e W8 ⟨r, rfl, r0, r1, hb⟩
          obtain ⟨sa, rfl⟩ : ∃ q : Nat, r = (q : Int) := ⟨r.toNat, by omega⟩
          obtain ⟨sh, fsh, hsh⟩ := share_ok sa (by omega)
          have qsh := run_q fsh 41
          have HSH := hide hsh
          have HW8 := hide (bc (unhide HW7) hb)
          have HY8 := hide ((unhide HY).below hb)
          clear hb r0 r1 fsh hsh HW7 HY
          go_wp2_with fail
          refine (caP_any (some ⟨gy, 0, none⟩) gy 0 n cy Y sh _ (unhide HYL) (by omega) ((unhide HY8).fls' n0)).mono ?_
          rintro e W9 ⟨⟨v, rfl, hv⟩, hb⟩
          have hcc : caC n Y sh = 0 := by unfold caC; rw [if_neg (by omega), show caOk n Y sh = true by unfold caOk; rw [unhide HSH, unhide HYA, decide_eq_true (by omega)]; rfl]; rfl
          unfold caN caF at hv
          rw [if_pos hcc, if_pos hcc] at hv
          rw [hcc]
          obtain ⟨Cr, hC, hCF⟩ := hv
          obtain ⟨gc, cc, rfl, _⟩ := hC.full n0
          have hfs : Fv .f32 sh = some sh := (num_of_between val32_0.1 one32.1 (unhide HSH)).fv
          rw [hfs] at hCF
          have HCR := hide hC
          have HCF := hide hCF
          have HY9 := hide ((unhide HY8).below hb)
          have HW9 := hide (bc (unhide HW8) hb)
          have HALL : Hid (∀ j, j < n → smp (Y.getD j 0) = true) := hide fun j hj => by
            have : Y[j]? = some (Y[j]'(by rw [unhide HYL]; exact hj)) := List.getElem?_eq_getElem _
            rw [List.getD_eq_getElem?_getD, this]
            exact List.all_eq_true.1 (unhide HYA) _ (List.getElem_mem _)
          obtain ⟨x0, hx0⟩ := get_some (unhide HYL) (show 0 < n by omega)
          have hs0 : smp x0 = true := List.all_eq_true.1 (unhide HYA) x0 (List.mem_of_getElem? hx0)
          obtain ⟨y0, hy0, hyv0⟩ := cvt_run hs0
          have ecv : cvt x0 = some y0 := by obtain ⟨y', g1, g2, _⟩ := cvt_at hs0; rw [g1] at hyv0 ⊢; rw [fv_eq hyv0]
          have cy0 : W9.cell? ⟨gy, 0, none⟩ = some (.float .f64 x0) := (unhide HY9).cellAt hx0
          have lcy := cell_lt cy0
          have HST := hide (lw_start hx0 hs0 ecv)
          have HX0 := hide hx0
          have HEC := hide ecv
          have npos : (0 : Int) < (n : Int) := by omega
          have nn : ((n : Int) != (n : Int)) = false := by simp
          clear hcc hC hCF hb hs0 hyv0 hx0 ecv hfs HY8 HW8 qsh
          go_wp2_with fail
          go_loopw [19, 20, 21] (fun s1 s2 s3 W => ∃ (i lo hi : Nat), s1 = .float .f32 lo ∧ s2 = .float .f32 hi ∧ s3 = .int .i64 (i : Int) ∧ i ≤ n ∧ Lw Y i lo hi ∧ Below W9.heap.size W9 W) (fun _ _ s _ => n - (intOf s).toNat)
          case atStart => exact ⟨0, y0, y0, rfl, rfl, rfl, Nat.zero_le _, unhide HST, by repeat (first | exact Below.refl _ _ | refine Below.drew ?_ | refine bel_dn' ?_ _)⟩
          case round =>
            obtain ⟨i, lo, hi, rfl, rfl, rfl, hin, hlw, hw⟩ := hrel
            have HLW := hide hlw
            have HWA := hide hw
            clear hlw hw HST
            have i0 : (0 : Int) ≤ (i : Int) := Int.natCast_nonneg _
            by_cases h3 : i < n
            · have i1 : (i : Int) < (n : Int) := by omega
              have iz : decide ((i : Int) < (n : Int)) = true := decide_eq_true i1
              obtain ⟨x, hx⟩ := get_some (unhide HYL) h3
              have hsx : smp x = true := List.all_eq_true.1 (unhide HYA) x (List.mem_of_getElem? hx)
              obtain ⟨y, hy, hyv⟩ := cvt_run hsx
              have ecv : cvt x = some y := by obtain ⟨y', g1, g2, _⟩ := cvt_at hsx; rw [g1] at hyv ⊢; rw [fv_eq hyv]
              have hclF : (clF Y (some sh) n)[i]? = some (cl Y (some sh) i) := clF_at Y (some sh) n i h3
              rw [← unhide HCF, List.getElem?_map] at hclF
              obtain ⟨c, ec, hcv⟩ := map_some' hclF
              have hce : cl Y (some sh) i = some c := by
                obtain ⟨c', g1, _⟩ := cl_near (unhide HALL) (num_of_between val32_0.1 one32.1 (unhide HSH)) (by have := btw_val val32_0.1 one32.1 (unhide HSH); rw [val32_0.2] at this; exact this.1) (by have := btw_val val32_0.1 one32.1 (unhide HSH); rw [one32.2] at this; exact this.2) i h3
                rw [g1] at hcv ⊢
                rw [fv_eq hcv]
              obtain ⟨lo', hi', l, h', m1, m2, fl, fh, o1, o2, hlw'⟩ := lw_step (unhide HLW) hx hsx ecv h3 (unhide HALL) (unhide HSH) hce
              have cxi := ((unhide HY9).below (unhide HWA)).cellAt hx
              have cci := ((unhide HCR).below (unhide HWA)).cellAt ec
              have ql := run_q fl 41
              have qh := run_q fh 41
              have HLW2 := hide hlw'
              clear hx hsx hyv ecv hclF ec hcv hce fl fh hlw'
              go_wp2_with fail
              go_roundw
              case rel => exact ⟨i + 1, lo', hi', rfl, rfl, by simp, h3, unhide HLW2, by repeat (first | exact unhide HWA | refine Below.drew ?_ | refine bel_dn' ?_ _)⟩
              case measure => simp only [intOf]; omega
            · have iz : decide ((i : Int) < (n : Int)) = false := decide_eq_false (by omega)
              have hclF : (clF Y (some sh) n)[0]? = some (cl Y (some sh) 0) := clF_at Y (some sh) n 0 (by omega)
              rw [← unhide HCF, List.getElem?_map] at hclF
              obtain ⟨c, ec, hcv⟩ := map_some' hclF
              have hce : c = y0 := by
                have h9 : cl Y (some sh) 0 = cvt (Y.getD 0 0) := rfl
                rw [h9, List.getD_eq_getElem?_getD, unhide HX0, Option.getD_some, unhide HEC] at hcv
                exact fv_eq hcv
              subst hce
              have cc0 : wr.cell? ⟨gc, 0, none⟩ = some (.float .f32 c) := ((unhide HCR).below (unhide HWA)).cellAt ec
              have cy1 : wr.cell? ⟨gy, 0, none⟩ = some (.float .f64 x0) := ((unhide HY9).below (unhide HWA)).cellAt (unhide HX0)
              have lcc := cell_lt cc0
              have oo : (FloatKind.f32.format.order c c == some .eq) = true := by
                have h9 := (unhide HLW).all 0 (.inr rfl)
                obtain ⟨y', g1, g2, _⟩ := cvt_at (List.all_eq_true.1 (unhide HYA) x0 (List.mem_of_getElem? (unhide HX0)))
                rw [unhide HEC] at g1
                cases g1
                rw [order_val g2 g2, if_neg (by grind), if_pos rfl]
                rfl
              clear hclF ec hcv cy0
              go_wp2_with fail
              go_quiet (fail)
              go_wp2_with fail
              go_ret
              exact ⟨by simp [*], by repeat (first | exact bc (unhide HW9) (unhide HWA) | refine Below.drew ?_ | refine bel_dn' ?_ _)⟩
end Go.Proofs.Ytgocgcnpgmamiaa
