/- The model's squares as they are told. -/
import Derived.Test.YtkiplmabjeadgaaGreatBdFiQ
import Derived.Test.YtkiplmabjeadgaaGreatBdT5Q
import Derived.Test.YtkiplmabjeadgaaGreatCkMQ
namespace Go.Proofs.YtkiplmabjeadgaaGreat
set_option maxRecDepth 100000
set_option maxHeartbeats 16000000
open Go.ChangeShapes Go.WideShapes Go.ChangeAt Go.RowKit
set_option linter.unusedVariables false
set_option linter.unusedSimpArgs false
theorem info179 : (Tryz.prog.info? 183).map (fun i => (i.zero, i.size, i.bytes)) = some (some (.agg #[.int .i64 0, .int .i64 0, .int .i64 0, .int .i64 0, .int .i64 0, .int .i64 0, .int .i64 0, .int .i64 0]), 8, 64) := by kernel_rfl
theorem sqc_one (q : Sq) : ∀ u ∈ sqc q, u.oneCell' = true := by
 intro u hu;simp only [sqc, bxc, List.mem_cons, List.not_mem_nil, or_false] at hu
 rcases hu with rfl | rfl | rfl | rfl | rfl | rfl | rfl | rfl <;> rfl
theorem sqA_none {c : Cs} {k s : Nat} (h : nbr k s = none) : sqA c k s = some ⟨c.by_ k, s, flt k s⟩ := by unfold sqA; rw [h]
theorem sqA_full {c : Cs} {k s m : Nat} (h : nbr k s = some m) (hf : c.full m = true) : sqA c k s = none := by unfold sqA; rw [h]; simp [hf]
theorem sqA_open {c : Cs} {k s m : Nat} (h : nbr k s = some m) (hf : c.full m = false) : sqA c k s = some ⟨max (c.by_ k) (c.by_ m), s, flt k s⟩ := by unfold sqA; rw [h]; simp [hf]
theorem sqsM_any (g gf gb : Nat) (l d o : Value) (cf cb : Nat) (c : Cs) (w : World) (hg : vb w g 97 [l, d, .slice (some ⟨gf, 0, none⟩) 13824 cf, .slice (some ⟨gb, 0, none⟩) 13824 cb, o]) (hc : CsM w gf gb c) :
  Calls Tryz.prog 112 #[.pointer (some ⟨g, 0, none⟩)] w fun e w' => (∃ v, e = .returned v ∧ w'.ownsRow w.heap.size 183 8 v (sqs c 13824).length (flatG sqc (sqs c 13824))) ∧ Below w.heap.size w w' := by
 obtain ⟨iT, ht, ht0, ht1, ht2⟩ := info_parts info179;have HG := hide (fun W (h : Below w.heap.size w W) => hg.bel h);have HC := hide (fun W (h : Below w.heap.size w W) => hc.bel h);have HR0 := hide (own_made w 183 w.heap.size 8 (Nat.le_refl _) _ rfl);have HD0 : Hid (Below w.heap.size w (w.alloc (.cells #[] 183))) := hide (ba (bfl _ _) _);clear hg hc;go_enter Tryz.func112, Tryz.ntmps112;go_wp2_with fail
 go_loopw [3, 4] (fun v s W => ∃ (z q : Nat), s = .int .i64 (z : Int) ∧ z ≤ 24 ∧ (sqs c (z * 576)).length = q ∧ W.ownsRow w.heap.size 183 8 v q (flatG sqc (sqs c (z * 576))) ∧ Below w.heap.size w W) (fun _ s _ => 24 - (intOf s).toNat)
 case atStart => exact ⟨0, 0, rfl, by omega, rfl, zu HR0, zu HD0⟩
 case round =>
  obtain ⟨z, q, rfl, hz, hq, hrow, hd⟩ := hrel;have HR := hide hrow;have HD := hide hd;have HQ := hide hq;obtain ⟨ug, cg, rfl, _⟩ := own_form hrow;clear hrow hd hq
  by_cases h : z < 24
  ·have iz : decide ((z : Int) < 24) = true := dt (by omega)
   have i1 : (z : Int) < 24 := by omega
   have wz : IntKind.i64.wrap ((z : Int) + 1) = ((z + 1 : Nat) : Int) := (wrap_i (by omega) (by omega)).trans (by simp);have e0 : z * 576 = (z * 24 + 0) * 24 := by omega
   rw [e0] at HR HQ;clear e0;go_wp2_with fail
   go_loopw [3, 5] (fun v s W => ∃ (y q : Nat), s = .int .i64 (y : Int) ∧ y ≤ 24 ∧ (sqs c ((z * 24 + y) * 24)).length = q ∧ W.ownsRow w.heap.size 183 8 v q (flatG sqc (sqs c ((z * 24 + y) * 24))) ∧ Below w.heap.size w W) (fun _ s _ => 24 - (intOf s).toNat)
   case atStart => exact ⟨0, q, rfl, by omega, zu HQ, zu HR, zu HD⟩
   case round =>
    clear HR HD HQ;obtain ⟨y, q, rfl, hy, hq, hrow, hd⟩ := hrel;have HR := hide hrow;have HD := hide hd;have HQ := hide hq;obtain ⟨ug, cg, rfl, _⟩ := own_form hrow;clear hrow hd hq
    by_cases h' : y < 24
    ·have jz : decide ((y : Int) < 24) = true := dt (by omega)
     have j1 : (y : Int) < 24 := by omega
     have wy : IntKind.i64.wrap ((y : Int) + 1) = ((y + 1 : Nat) : Int) := (wrap_i (by omega) (by omega)).trans (by simp);go_wp2_with fail
     go_loopw [3, 6] (fun v s W => ∃ (x q : Nat), s = .int .i64 (x : Int) ∧ x ≤ 24 ∧ (sqs c ((z * 24 + y) * 24 + x)).length = q ∧ W.ownsRow w.heap.size 183 8 v q (flatG sqc (sqs c ((z * 24 + y) * 24 + x))) ∧ Below w.heap.size w W) (fun _ s _ => 24 - (intOf s).toNat)
     case atStart => exact ⟨0, q, rfl, by omega, zu HQ, zu HR, zu HD⟩
     case round =>
      clear HR HD HQ;obtain ⟨x, q, rfl, hx, hq, hrow, hd⟩ := hrel;have HR := hide hrow;have HD := hide hd;have HQ := hide hq;obtain ⟨ug, cg, rfl, _⟩ := own_form hrow;clear hrow hd hq
      by_cases h'' : x < 24
      ·have lz : decide ((x : Int) < 24) = true := dt (by omega)
       have l1 : (x : Int) < 24 := by omega
       have wx : IntKind.i64.wrap ((x : Int) + 1) = ((x + 1 : Nat) : Int) := (wrap_i (by omega) (by omega)).trans (by simp);have HAT := hide (fun W => mAt_any x y z W (by omega) (by omega) (by omega));have hK : at3 x y z < 13824 := at3_lt (by omega) (by omega) (by omega);have eK : (z * 24 + y) * 24 + x = at3 x y z := rfl;have eK1 : (z * 24 + y) * 24 + (x + 1) = at3 x y z + 1 := rfl;have ecx := at3_cx (x := x) (y := y) (z := z) h'' h';have ecy := at3_cy (x := x) (y := y) (z := z) h'' h';have ecz := at3_cz (x := x) (y := y) (z := z) h'' h';rw [eK] at HR HQ;have HE1 := hide eK1;have HX := hide ecx
       have HY := hide ecy;have HZ := hide ecz;clear eK eK1 ecx ecy ecz;generalize at3 x y z = kk at *;have HK := hide hK;have kg2 := (zu HG _ (zu HD)).cell (m := 2) rfl;have cf0 := (zu HC _ (zu HD)).cf hK;have K0 : (0 : Int) ≤ (kk : Int) := Int.natCast_nonneg _;have K1 : (kk : Int) < 13824 := by omega
       have kz : decide ((kk : Int) < 13824) = true := dt K1;have HSU := hide (sqs_succ c kk)
       cases hf : c.full kk with
       | false =>
        rw [hf] at cf0;have HE := hide (sqC_empty hf 6);clear hf;go_wp2_with fail;refine (zu HAT _).mono ?_;rintro e W4 ⟨rfl, rfl⟩;go_wp2_with fail;go_roundw
        case rel => exact ⟨x + 1, q, by simp, h'', by rw [zu HE1, zu HSU, zu HE, List.append_nil]; exact zu HQ, by rw [zu HE1, zu HSU, zu HE, List.append_nil]; exact zu HR, zu HD⟩
        case measure => simp only [intOf]; omega
       | true =>
        rw [hf] at cf0;have HF := hide hf;clear hf;have HZ0 := hide (sqC_zero c kk);have hq6 := sqs_len c kk;rw [zu HQ] at hq6;go_wp2_with fail;refine (zu HAT _).mono ?_;rintro e W4 ⟨rfl, rfl⟩;go_wp2_with fail;clear kg2 cf0
        go_loopw [3, 8] (fun v s W => ∃ (sd t : Nat), s = .int .i64 (sd : Int) ∧ 1 ≤ sd ∧ sd ≤ 7 ∧ t ≤ 6 * kk + sd ∧ (sqs c kk ++ sqC c kk (sd - 1)).length = t ∧ W.ownsRow w.heap.size 183 8 v t (flatG sqc (sqs c kk ++ sqC c kk (sd - 1))) ∧ Below w.heap.size w W) (fun _ s _ => 7 - (intOf s).toNat)
        case atStart => exact ⟨1, q, rfl, by omega, by omega, by omega, by rw [Nat.sub_self, zu HZ0, List.append_nil]; exact zu HQ, by rw [Nat.sub_self, zu HZ0, List.append_nil]; exact zu HR, zu HD⟩
        case round =>
         clear HR HD HQ hq6;obtain ⟨sd, t, rfl, hs1, hs7, ht6, hq, hrow, hd⟩ := hrel;have HR := hide hrow;have HD := hide hd;have HQ := hide hq;obtain ⟨ug, cg, rfl, _⟩ := own_form hrow;clear hrow hd hq
         by_cases h3 : sd ≤ 6
         ·have mz : decide ((sd : Int) ≤ 6) = true := dt (by omega)
          have m1 : (sd : Int) ≤ 6 := by omega
          have ws : IntKind.i64.wrap ((sd : Int) + 1) = ((sd + 1 : Nat) : Int) := (wrap_i (by omega) (by omega)).trans (by simp);have HSC : Hid (sqC c kk sd = sqC c kk (sd - 1) ++ (sqA c kk sd).toList) := hide (by have := sqC_succ (zu HF) (sd - 1); rw [show sd - 1 + 1 = sd by omega] at this; exact this);have HS1 : Hid (sd + 1 - 1 = sd) := hide (by omega);have HST := hide (fun W => mStep_any sd W ⟨hs1, h3⟩);have hni := nbr_in (zu HK) ⟨hs1, h3⟩;rw [zu HX, zu HY, zu HZ] at hni;have HFT := hide (fun W => mFlat_any kk sd W (zu HK) ⟨hs1, h3⟩);rw [zu HX, zu HY, zu HZ] at HFT
          have hdx : -1 ≤ (stp sd).1 ∧ (stp sd).1 ≤ 1 ∧ -1 ≤ (stp sd).2.1 ∧ (stp sd).2.1 ≤ 1 ∧ -1 ≤ (stp sd).2.2 ∧ (stp sd).2.2 ≤ 1 := by unfold stp; split <;> simp
          generalize hd1 : (stp sd).1 = dx at *;generalize hd2 : (stp sd).2.1 = dy at *;generalize hd3 : (stp sd).2.2 = dz at *;clear hd1 hd2 hd3;have wX : IntKind.i64.wrap ((x : Int) + dx) = (x : Int) + dx := wrap_i (by omega) (by omega);have wY : IntKind.i64.wrap ((y : Int) + dy) = (y : Int) + dy := wrap_i (by omega) (by omega);have wZ : IntKind.i64.wrap ((z : Int) + dz) = (z : Int) + dz := wrap_i (by omega) (by omega);have HIN := hide (fun W => mInside_any ((x : Int) + dx) ((y : Int) + dy) ((z : Int) + dz) W);obtain ⟨hin, hnm⟩ := hni;rw [hin] at HIN;clear hin hdx
          have kg2 := (zu HG _ (zu HD)).cell (m := 2) rfl;have kg3 := (zu HG _ (zu HD)).cell (m := 3) rfl;have cbk := (zu HC _ (zu HD)).cb (zu HK);have HKH := hide (hide (zu HK))
          have hfl : ∃ q, flt kk sd = q := ⟨_, rfl⟩
          obtain ⟨⟨f0, f1, f2, f3, f4, f5⟩, hfl⟩ := hfl;rw [hfl] at HFT
          cases hn : nbr kk sd with
          | none =>
           rw [hn] at HIN;simp only [Option.isSome_none] at HIN;have HSA := hide (sqA_none (c := c) hn);rw [hfl] at HSA;clear hn hnm hfl kg2;generalize c.by_ kk = yk at *;have g1 : decide ((yk : Int) < 0) = false := df (by omega);have g2 : decide ((0 : Int) > (yk : Int)) = false := df (by omega);have g3 : ¬ (yk : Int) < 0 := by omega
           go_wp2_with fail;refine (zu HST _).mono ?_;rintro e W4 ⟨rfl, rfl⟩;go_wp2_with fail;refine (zu HIN _).mono ?_;rintro e W4 ⟨rfl, rfl⟩;go_wp2_with fail;refine Go.Code.wp_mono (Only.to (fun _ _ h => h)) (sq22 (hide kg3) (hide cbk) (zu HKH) (hide fun X _ => zu HFT X) ?_);intro n14 W9 hb9 hv9 hn9;have HD8 := hide (bc (zu HD) hb9);have HR8 := hide (own_bel (zu HR) hb9);have HV8 := hide hv9;have e0 := hv9.cell (m := 0) rfl;have fz := hv9.frozen 0;clear hb9 hv9 kg3 cbk;have HD9 := hide (zu HD8);have HR9 := hide (zu HR8);have HV9 := hide (zu HV8);clear HD8 HR8 HV8
           have c0 := (zu HV9).cell (m := 0) rfl;have c1 := (zu HV9).cell (m := 1) rfl;have c2 := (zu HV9).cell (m := 2) rfl;have c3 := (zu HV9).cell (m := 3) rfl;have c4 := (zu HV9).cell (m := 4) rfl;have c5 := (zu HV9).cell (m := 5) rfl;have c6 := (zu HV9).cell (m := 6) rfl;have c7 := (zu HV9).cell (m := 7) rfl
           go_wp2_with (at_builtin; refine zu ?_)
           refine hide ?_;refine wpList_append_own _ rfl _ _ 130 rfl w.heap.size 183 iT _ 8 64 Tryz.underlying130 ht ht0 ht1 ht2 rfl (by decide) _ t _ rfl (own_bel (zu HR9) (ba (bfl _ _) _)) _ 1 1 (sqc ⟨yk, sd, ⟨f0, f1, f2, f3, f4, f5⟩⟩) rfl rfl (by first | exact news_cells _ _ rfl | exact news_cells _ _ (by simp)) (sqc_one _) (by unfold maxLen; omega) (by omega) (Nat.le_trans (zu HD9).size (by simp)) ?_;intro v' w1 hown' hgrow _;have R := hide (own_app (Below.alloc (bfl w.heap.size _) (zu HD9).size _) (Nat.le_trans (zu HD9).size (by simp)) (zu HR9) hown' hgrow);clear hown' hgrow
           go_wp2_with fail;go_roundw
           case rel => exact ⟨sd + 1, t + 1, by simp, by omega, by omega, by omega, by rw [zu HS1, zu HSC, zu HSA, Option.toList_some, ← List.append_assoc, List.length_append, zu HQ]; rfl, by rw [zu HS1, zu HSC, zu HSA, Option.toList_some, ← List.append_assoc]; exact (zu R).1, (zu HD9).trans (zu R).2⟩
           case measure => simp only [intOf]; omega
          | some m =>
           rw [hn] at HIN;simp only [Option.isSome_some] at HIN;obtain ⟨hX, hY, hZ⟩ := hnm m hn;have hm := nbr_lt (zu HK) hn;have hmx := cx_lt m;have hmy := cy_lt m;have hmz := cz_lt hm;have HAM := hide (fun W => mAt_any (cx m) (cy m) (cz m) W (by omega) (by omega) (by omega));rw [at3_c, ← hX, ← hY, ← hZ] at HAM;have cfm := (zu HC _ (zu HD)).cf hm;have cbm := (zu HC _ (zu HD)).cb hm;have M0 : (0 : Int) ≤ (m : Int) := Int.natCast_nonneg _;have M1 : (m : Int) < 13824 := by omega
           have mz2 : decide ((m : Int) < 13824) = true := dt M1;clear hX hY hZ hm hmx hmy hmz hnm
           cases hf : c.full m with
           | true =>
            have HSA := hide (sqA_full hn hf);rw [hf] at cfm;clear hn hf hfl;go_wp2_with fail;refine (zu HST _).mono ?_;rintro e W4 ⟨rfl, rfl⟩;go_wp2_with fail;refine (zu HIN _).mono ?_;rintro e W4 ⟨rfl, rfl⟩;go_wp2_with fail;refine (zu HAM _).mono ?_;rintro e W4 ⟨rfl, rfl⟩;go_wp2_with fail;go_roundw
            case rel => exact ⟨sd + 1, t, by simp, by omega, by omega, by omega, by rw [zu HS1, zu HSC, zu HSA, Option.toList_none, List.append_nil]; exact zu HQ, by rw [zu HS1, zu HSC, zu HSA, Option.toList_none, List.append_nil]; exact zu HR, zu HD⟩
            case measure => simp only [intOf]; omega
           | false =>
            have HSA := hide (sqA_open hn hf);rw [hf] at cfm;rw [hfl] at HSA;clear hn hf hfl;generalize c.by_ kk = yk at *;generalize c.by_ m = ym at *;go_wp2_with fail;refine (zu HST _).mono ?_;rintro e W4 ⟨rfl, rfl⟩;go_wp2_with fail;refine (zu HIN _).mono ?_;rintro e W4 ⟨rfl, rfl⟩;go_wp2_with fail;refine (zu HAM _).mono ?_;rintro e W4 ⟨rfl, rfl⟩;go_wp2_with fail;refine Go.Code.wp_mono (Only.to (fun _ _ h => h)) (sq22 (hide kg3) (hide cbk) (zu HKH) (hide fun X _ => zu HFT X) ?_);intro n14 W9 hb9 hv9 hn9;have HD8 := hide (bc (zu HD) hb9);have HR8 := hide (own_bel (zu HR) hb9)
            have HV8 := hide hv9;have e0 := hv9.cell (m := 0) rfl;have fz := hv9.frozen 0;clear hb9 hv9 kg3 cbk
            by_cases hlt : yk < ym
            ·have g1 : decide ((yk : Int) < (ym : Int)) = true := dt (by omega)
             have g2 : decide ((ym : Int) > (yk : Int)) = true := dt (by omega);have g3 : (yk : Int) < (ym : Int) := by omega
             have hmax : max yk ym = ym := Nat.max_eq_right (by omega);rw [hmax] at HSA;clear hmax hlt;have HV9 := hide ((zu HV8).set 0 (.int .i64 (ym : Int)));have HD9 := hide (Below.setCell (zu HD8) (by have := (zu HD).size; omega : w.heap.size ≤ n14) (p := ⟨n14, 0, none⟩) (.int .i64 (ym : Int)));have HR9 := hide (own_kept (zu HR8) (w' := W9.setCell ⟨n14, 0, none⟩ (.int .i64 (ym : Int))) (fun j hj => Below.heap_setCell _ _ _ _ (by have := own_ge (zu HR) j hj; show j ≠ n14; omega)));have c0 := (zu HV9).cell (m := 0) rfl;have c1 := (zu HV9).cell (m := 1) rfl
             have c2 := (zu HV9).cell (m := 2) rfl;have c3 := (zu HV9).cell (m := 3) rfl;have c4 := (zu HV9).cell (m := 4) rfl;have c5 := (zu HV9).cell (m := 5) rfl;have c6 := (zu HV9).cell (m := 6) rfl;have c7 := (zu HV9).cell (m := 7) rfl;simp only [List.set_cons_zero] at c0 c1 c2 c3 c4 c5 c6 c7
             go_wp2_with (at_builtin; refine zu ?_)
             refine hide ?_;refine wpList_append_own _ rfl _ _ 130 rfl w.heap.size 183 iT _ 8 64 Tryz.underlying130 ht ht0 ht1 ht2 rfl (by decide) _ t _ rfl (own_bel (zu HR9) (ba (bfl _ _) _)) _ 1 1 (sqc ⟨ym, sd, ⟨f0, f1, f2, f3, f4, f5⟩⟩) rfl rfl (by first | exact news_cells _ _ rfl | exact news_cells _ _ (by simp)) (sqc_one _) (by unfold maxLen; omega) (by omega) (Nat.le_trans (zu HD9).size (by simp)) ?_;intro v' w1 hown' hgrow _;have R := hide (own_app (Below.alloc (bfl w.heap.size _) (zu HD9).size _) (Nat.le_trans (zu HD9).size (by simp)) (zu HR9) hown' hgrow);clear hown' hgrow
             go_wp2_with fail;go_roundw
             case rel => exact ⟨sd + 1, t + 1, by simp, by omega, by omega, by omega, by rw [zu HS1, zu HSC, zu HSA, Option.toList_some, ← List.append_assoc, List.length_append, zu HQ]; rfl, by rw [zu HS1, zu HSC, zu HSA, Option.toList_some, ← List.append_assoc]; exact (zu R).1, (zu HD9).trans (zu R).2⟩
             case measure => simp only [intOf]; omega
            ·have g1 : decide ((yk : Int) < (ym : Int)) = false := df (by omega)
             have g2 : decide ((ym : Int) > (yk : Int)) = false := df (by omega);have g3 : ¬ (yk : Int) < (ym : Int) := by omega
             have hmax : max yk ym = yk := Nat.max_eq_left (by omega);rw [hmax] at HSA;clear hmax hlt;have HD9 := hide (zu HD8);have HR9 := hide (zu HR8);have HV9 := hide (zu HV8);clear HD8 HR8 HV8;have c0 := (zu HV9).cell (m := 0) rfl;have c1 := (zu HV9).cell (m := 1) rfl;have c2 := (zu HV9).cell (m := 2) rfl;have c3 := (zu HV9).cell (m := 3) rfl;have c4 := (zu HV9).cell (m := 4) rfl;have c5 := (zu HV9).cell (m := 5) rfl;have c6 := (zu HV9).cell (m := 6) rfl;have c7 := (zu HV9).cell (m := 7) rfl
             go_wp2_with (at_builtin; refine zu ?_)
             refine hide ?_;refine wpList_append_own _ rfl _ _ 130 rfl w.heap.size 183 iT _ 8 64 Tryz.underlying130 ht ht0 ht1 ht2 rfl (by decide) _ t _ rfl (own_bel (zu HR9) (ba (bfl _ _) _)) _ 1 1 (sqc ⟨yk, sd, ⟨f0, f1, f2, f3, f4, f5⟩⟩) rfl rfl (by first | exact news_cells _ _ rfl | exact news_cells _ _ (by simp)) (sqc_one _) (by unfold maxLen; omega) (by omega) (Nat.le_trans (zu HD9).size (by simp)) ?_;intro v' w1 hown' hgrow _;have R := hide (own_app (Below.alloc (bfl w.heap.size _) (zu HD9).size _) (Nat.le_trans (zu HD9).size (by simp)) (zu HR9) hown' hgrow);clear hown' hgrow
             go_wp2_with fail;go_roundw
             case rel => exact ⟨sd + 1, t + 1, by simp, by omega, by omega, by omega, by rw [zu HS1, zu HSC, zu HSA, Option.toList_some, ← List.append_assoc, List.length_append, zu HQ]; rfl, by rw [zu HS1, zu HSC, zu HSA, Option.toList_some, ← List.append_assoc]; exact (zu R).1, (zu HD9).trans (zu R).2⟩
             case measure => simp only [intOf]; omega
         ·have mz : decide ((sd : Int) ≤ 6) = false := df (by omega)
          have m1 : ¬ (sd : Int) ≤ 6 := by omega
          obtain rfl : sd = 7 := by omega
          have HE7 : Hid (sqs c kk ++ sqC c kk (7 - 1) = sqs c (kk + 1)) := hide (zu HSU).symm;rw [zu HE7] at HR HQ;go_wp2_with fail;go_roundw
          case rel => exact ⟨x + 1, t, by simp, h'', by rw [zu HE1]; exact zu HQ, by rw [zu HE1]; exact zu HR, zu HD⟩
          case measure => simp only [intOf]; omega
      ·have lz : decide ((x : Int) < 24) = false := df (by omega)
       have l1 : ¬ (x : Int) < 24 := by omega
       obtain rfl : x = 24 := by omega
       have e0 : (z * 24 + y) * 24 + 24 = (z * 24 + (y + 1)) * 24 := by omega
       rw [e0] at HR HQ;clear e0;go_wp2_with fail;go_roundw
       case rel => exact ⟨y + 1, q, by simp, h', zu HQ, zu HR, zu HD⟩
       case measure => simp only [intOf]; omega
    ·have jz : decide ((y : Int) < 24) = false := df (by omega)
     have j1 : ¬ (y : Int) < 24 := by omega
     obtain rfl : y = 24 := by omega
     have e0 : (z * 24 + 24) * 24 = (z + 1) * 576 := by omega
     rw [e0] at HR HQ;clear e0;go_wp2_with fail;go_roundw
     case rel => exact ⟨z + 1, q, by simp, h, zu HQ, zu HR, zu HD⟩
     case measure => simp only [intOf]; omega
  ·have iz : decide ((z : Int) < 24) = false := df (by omega)
   have i1 : ¬ (z : Int) < 24 := by omega
   obtain rfl : z = 24 := by omega
   go_wp2_with fail;go_ret;exact ⟨⟨_, rfl, by rw [zu HQ]; exact zu HR⟩, zu HD⟩
theorem flatG_set1 {α : Type} {c : α → List Value} {k : Nat} (hc : ∀ a, (c a).length = k) {l : List α} {i j : Nat} {a b : α} {v : Value} (h : l[i]? = some a) (hj : j < k) (hb : c b = (c a).set j v) : (flatG c l).set (i * k + j) v = flatG c (l.set i b) := by
 induction l generalizing i with
 | nil => cases h
 | cons x l ih =>
  cases i with
  | zero =>
   simp only [List.getElem?_cons_zero, Option.some.injEq] at h;subst h;simp only [Nat.zero_mul, Nat.zero_add, flatG, List.set_cons_zero];rw [List.set_append, if_pos (by rw [hc]; exact hj), hb]
  | succ i =>
   have := ih (i := i) (by simpa using h);simp only [flatG, List.set_cons_succ];rw [List.set_append, if_neg (by rw [hc, Nat.add_mul]; omega), hc, show (i + 1) * k + j - k = i * k + j by rw [Nat.add_mul]; omega, this]
def mix {α : Type} (T : α → α) (l : List α) (i : Nat) : List α := (l.take i).map T ++ l.drop i
theorem mix_zero {α : Type} (T : α → α) (l : List α) : mix T l 0 = l := by simp [mix]
theorem mix_all {α : Type} (T : α → α) {l : List α} {i : Nat} (h : l.length ≤ i) : mix T l i = l.map T := by
 unfold mix;rw [List.take_of_length_le h, List.drop_eq_nil_of_le h, List.append_nil]
theorem mix_at {α : Type} (T : α → α) {l : List α} {i : Nat} {a : α} (h : l[i]? = some a) : (mix T l i)[i]? = some a := by
 have hi := (List.getElem?_eq_some_iff.1 h).1;unfold mix;rw [List.getElem?_append_right (by rw [List.length_map, List.length_take]; omega), List.length_map, List.length_take, Nat.min_eq_left (by omega), Nat.sub_self, List.getElem?_drop, Nat.add_zero, h]
theorem mix_set {α : Type} (T : α → α) {l : List α} {i : Nat} {a : α} (h : l[i]? = some a) : (mix T l i).set i (T a) = mix T l (i + 1) := by
 have hi := (List.getElem?_eq_some_iff.1 h).1;unfold mix;have hl : ((l.take i).map T).length = i := by rw [List.length_map, List.length_take]; omega
 rw [List.set_append, if_neg (by omega), hl, Nat.sub_self, List.take_add_one, h, Option.toList_some, List.map_append, List.append_assoc]
 congr 1
 rw [List.drop_eq_getElem_cons hi];rfl
theorem mix_same {α : Type} (T : α → α) {l : List α} {i : Nat} {a : α} (h : l[i]? = some a) (e : T a = a) : mix T l (i + 1) = mix T l i := by
 rw [← mix_set T h, e];apply List.ext_getElem?;intro j;rw [List.getElem?_set]
 split
 ·rename_i q
  subst q;have := mix_at T h;rw [if_pos (List.getElem?_eq_some_iff.1 this).1, this]
 ·rfl
theorem own_rowc {α : Type} {c : α → List Value} {k : Nat} (hc : ∀ a, (c a).length = k) {w : World} {B t n cap : Nat} {u : Option Addr} {l : List α} (h : w.ownsRow B t k (.slice u n cap) n (flatG c l)) (h0 : n ≠ 0) :
  ∃ g, u = some ⟨g, 0, none⟩ ∧ B ≤ g ∧ g < w.heap.size ∧ ∀ (i : Nat) (a : α), l[i]? = some a → ∀ (j : Nat) (v : Value), (c a)[j]? = some v → w.cell? ⟨g, i * k + j, none⟩ = some v := by
 obtain ⟨u', c', e, _, _, h9⟩ := own_form h
 injection e with a1 a2 a3
 subst a1;obtain ⟨g, rfl, hB, hg, hx⟩ := h9 h0;exact ⟨g, rfl, hB, hg, fun i a ha j v hv => hx _ _ (flatG_at hc ha hv)⟩
theorem bel15 {B g : Nat} {w W : World} (h : Below B w W) (hg : B ≤ g) (v0 v1 v2 v3 v4 v5 v6 v7 v8 v9 v10 v11 v12 v13 v14 : Value) : Below B w (((((((((((((((W.setCell ⟨g, 0, none⟩ v0).setCell ⟨g, 1, none⟩ v1).setCell ⟨g, 2, none⟩ v2).setCell ⟨g, 3, none⟩ v3).setCell ⟨g, 4, none⟩ v4).setCell ⟨g, 5, none⟩ v5).setCell ⟨g, 6, none⟩ v6).setCell ⟨g, 7, none⟩ v7).setCell ⟨g, 8, none⟩ v8).setCell ⟨g, 9, none⟩ v9).setCell ⟨g, 10, none⟩ v10).setCell ⟨g, 11, none⟩ v11).setCell ⟨g, 12, none⟩ v12).setCell ⟨g, 13, none⟩ v13).setCell ⟨g, 14, none⟩ v14) := by
 repeat (refine Below.setCell ?_ (show B ≤ (⟨g, _, none⟩ : Addr).block from hg) _)
 exact h
theorem cell15 {g : Nat} {W : World} {t : Nat} {x0 x1 x2 x3 x4 x5 x6 x7 x8 x9 x10 x11 x12 x13 x14 : Value} (h : vb W g t [x0, x1, x2, x3, x4, x5, x6, x7, x8, x9, x10, x11, x12, x13, x14]) (v0 v1 v2 v3 v4 v5 v6 v7 v8 v9 v10 v11 v12 v13 v14 : Value) : vb (((((((((((((((W.setCell ⟨g, 0, none⟩ v0).setCell ⟨g, 1, none⟩ v1).setCell ⟨g, 2, none⟩ v2).setCell ⟨g, 3, none⟩ v3).setCell ⟨g, 4, none⟩ v4).setCell ⟨g, 5, none⟩ v5).setCell ⟨g, 6, none⟩ v6).setCell ⟨g, 7, none⟩ v7).setCell ⟨g, 8, none⟩ v8).setCell ⟨g, 9, none⟩ v9).setCell ⟨g, 10, none⟩ v10).setCell ⟨g, 11, none⟩ v11).setCell ⟨g, 12, none⟩ v12).setCell ⟨g, 13, none⟩ v13).setCell ⟨g, 14, none⟩ v14) g t [v0, v1, v2, v3, v4, v5, v6, v7, v8, v9, v10, v11, v12, v13, v14] :=
 ((((((((((((((h.set 0 v0).set 1 v1).set 2 v2).set 3 v3).set 4 v4).set 5 v5).set 6 v6).set 7 v7).set 8 v8).set 9 v9).set 10 v10).set 11 v11).set 12 v12).set 13 v13).set 14 v14
theorem sqs_nb {c : Cs} {m : Nat} (h : ∀ k, k < 13824 → c.by_ k ≤ m) (h1 : ∀ k, k < 13824 → c.full k = true → 1 ≤ c.by_ k) {q : Sq} (hq : q ∈ sqs c 13824) : (1 ≤ q.nb ∧ q.nb ≤ m) ∧ 1 ≤ q.sd ∧ q.sd ≤ 6 := by
 obtain ⟨k, s, hk, a1, a6, hf, ha⟩ := mem_sqs hq;have e := sqA_bx ha;refine ⟨?_, by omega⟩;have b1 := h k hk;have b2 := h1 k hk hf;unfold sqA at ha
 split at ha
 ·simp only [Option.some.injEq] at ha
  subst ha;exact ⟨b2, b1⟩
 ·rename_i mm em
  have b3 := h mm (nbr_lt hk em)
  split at ha
  ·cases ha
  ·simp only [Option.some.injEq] at ha
   subst ha;exact ⟨by show 1 ≤ max _ _; omega, by show max _ _ ≤ m; omega⟩
theorem toldM_any (g gf gb : Nat) (u : Option Addr) (p po n cu : Nat) (fs : List Ft) (ud : Option Addr) (pd od nd cd : Nat) (D : List Nat) (o : Value) (cf cb : Nat) (c : Cs) (w : World)
  (hg : vb w g 97 [.slice u n cu, .slice ud nd cd, .slice (some ⟨gf, 0, none⟩) 13824 cf, .slice (some ⟨gb, 0, none⟩) 13824 cb, o]) (hc : CsM w gf gb c)
  (hl : fs.length = n) (hn : n ≤ 1048576) (hu : SlG ftc 15 w u p po fs) (hrow : ∀ f ∈ fs, f.kd = 3 → ∃ k, findN fs f.ov = some k)
  (hD : D.length = nd) (hdu : SlG natc 1 w ud pd od D) (hDl : ∀ d ∈ D, d < n) (hnd : nd ≤ 1000)
  (hby : ∀ k, k < 13824 → c.by_ k ≤ nd) (hon : ∀ k, k < 13824 → c.full k = true → 1 ≤ c.by_ k) :
  Calls Tryz.prog 79 #[.pointer (some ⟨g, 0, none⟩)] w fun e w' => (∃ v, e = .returned v ∧ w'.ownsRow w.heap.size 183 8 v ((sqs c 13824).map (tld (pkt fs D))).length (flatG sqc ((sqs c 13824).map (tld (pkt fs D))))) ∧ Below w.heap.size w w' := by
 have HSM := hide (sqsM_any g gf gb _ _ o cf cb c w hg hc);have HG := hide (fun W (h : Below w.heap.size w W) => hg.bel h);have HU := hide (fun W (h : Below w.heap.size w W) => hu.bel h);have HDU := hide (fun W (h : Below w.heap.size w W) => hdu.bel h);have HL := hide hl;have HD := hide hD;have HDL := hide hDl;have HRW := hide hrow;have HNB := hide (fun q (hq : q ∈ sqs c 13824) => sqs_nb hby hon hq);have hq9 := sqs_len c 13824;generalize sqs c 13824 = L at *
 obtain ⟨T, hT⟩ : ∃ T, tld (pkt fs D) = T := ⟨_, rfl⟩
 have HT := hide hT;rw [hT]
 obtain ⟨qn, hqn⟩ : ∃ q, L.length = q := ⟨_, rfl⟩
 have HQN := hide hqn;rw [List.length_map];rw [hqn] at HSM hq9 ⊢;clear hg hc hl hu hrow hD hdu hDl hby hon hT hqn;go_enter Tryz.func79, Tryz.ntmps79;go_wp2_with fail;refine (zu HSM).mono ?_;rintro e W1 ⟨⟨v, rfl, hr⟩, hb⟩;have HR := hide hr;have HB := hide hb;obtain ⟨uo, co, rfl, _⟩ := own_form hr;clear hr hb HSM;go_wp2_with fail
 go_loopw [4] (fun s W => ∃ i : Nat, s = .int .i64 (i : Int) ∧ i ≤ qn ∧ W.ownsRow w.heap.size 183 8 (.slice uo qn co) qn (flatG sqc (mix T L i)) ∧ Below w.heap.size w W) (fun s _ => qn - (intOf s).toNat)
 case atStart => exact ⟨0, rfl, Nat.zero_le _, by rw [mix_zero]; exact zu HR, zu HB⟩
 case round =>
  clear HR HB;obtain ⟨i, rfl, hi, hr, hb⟩ := hrel;have HR := hide hr;have HB := hide hb
  by_cases h : i < qn
  ·have i1 : (i : Int) < (qn : Int) := by omega
   have i0 : (0 : Int) ≤ (i : Int) := Int.natCast_nonneg _;have iz : decide ((i : Int) < (qn : Int)) = true := dt i1;have wi : IntKind.i64.wrap ((i : Int) + 1) = ((i + 1 : Nat) : Int) := (wrap_i (by omega) (by omega)).trans (by simp);obtain ⟨q, hq⟩ := get_some (zu HQN) h;have hqm := mix_at T hq;obtain ⟨go, rfl, hgo, hgl, hcells⟩ := own_rowc sqc_len hr (by omega);have kb := hcells i q hqm 0 _ rfl;have ks := hcells i q hqm 1 _ rfl;rw [Nat.add_zero] at kb;have hnb := zu HNB q (List.mem_of_getElem? hq);obtain ⟨⟨n1, n2⟩, s1, s2⟩ := hnb
   have HTQ : Hid (T q = if pkt fs D q.nb = true then ⟨q.nb, opp q.sd, q.bx⟩ else q) := hide (by rw [← zu HT]; rfl);have HMS := hide (mix_set T hq);have HMZ := hide (mix_same T hq);have HQM := hide hqm;have HGL := hide hgl;have hfz : ∀ o, wr.frozen? ⟨go, o, none⟩ = false := own_frz hr
   -- the feature
   obtain ⟨bm, hbm⟩ : ∃ bm, q.nb = bm + 1 := ⟨q.nb - 1, by omega⟩
   obtain ⟨dd, hdd⟩ := get_some (zu HD) (show bm < nd by omega);have hddn := zu HDL dd (List.mem_of_getElem? hdd);obtain ⟨f, hf⟩ := get_some (zu HL) hddn;obtain ⟨rfl, _, hdc⟩ := (zu HDU _ hb).at hdd;have kd0 := hdc 0 _ rfl;rw [Nat.mul_one, Nat.add_zero] at kd0
   have hfu := ((zu HU _ hb).at15 hf)
   obtain ⟨rfl, f0, f1, f2, f3, f4, f5, f6, f7, f8, f9, f10, f11, f12, f13, f14⟩ := hfu
   have hpk : pkt fs D q.nb = decide (kdF fs f = 2) := by
    unfold pkt;have e1 : D.getD (q.nb - 1) 0 = dd := by rw [hbm, Nat.add_sub_cancel, List.getD_eq_getElem?_getD, hdd]; rfl
    have e2 : fs.getD dd ft0 = f := getD_at hf;rw [e1, e2, dt (show q.nb ≠ 0 by omega), Bool.true_and]
   have HPK := hide hpk;have wb : IntKind.i64.wrap ((q.nb : Int) - 1) = (bm : Int) := (wrap_i (by omega) (by omega)).trans (by omega);have kg := zu HG _ hb;have kg0 := kg.cell (m := 0) rfl;have kg1 := kg.cell (m := 1) rfl;have HFR := hide (zu HRW f (List.mem_of_getElem? hf));have hbmn : bm < nd := by omega
   have HOP := hide (fun W => mOpp_any q.sd W ⟨s1, s2⟩);have HX1 := hide (hide h);have HX2 := hide (hide hbmn);have HX3 := hide (hide hddn);have HX4 := hide (hide wb);have HGO := hide hgo;clear hr hb hq hqm hcells hdd hf hdc hpk hbm n1 n2 s1 s2 kg hddn hbmn wb hfz hgl;go_wp2_with fail;refine Go.Code.wp_mono (Only.to (fun _ _ h => h)) (td5 (hide kg0) (hide kg1) (hide kb) (hide kd0) (hide f0) (hide f1) (hide f2) (hide f3) (hide f4) (hide f5) (hide f6) (hide f7) (hide f8) (hide f9) (hide f10) (hide f11) (hide f12) (hide f13) (hide f14) (zu HX1) (zu HX4) (zu HX2) (zu HX3) ?_)
   intro n18 W9 hb9 hv9 hn9;have HB9 := hide (bc (zu HB) hb9);have HR9 := hide (own_bel (zu HR) hb9);have HV9 := hide hv9;have HL9 := hide (Nat.lt_of_lt_of_le (zu HGL) hb9.size);have e3 := hv9.cell (m := 3) rfl;clear kg0 kg1 kb kd0 f0 f1 f2 f3 f4 f5 f6 f7 f8 f9 f10 f11 f12 f13 f14 hb9
   by_cases hk3 : f.kd = 3
   ·obtain ⟨k2, hk2f⟩ := zu HFR hk3
    obtain ⟨f', hf'⟩ := get_some (zu HL) (show k2 < n by have := findN_lt hk2f; rw [zu HL] at this; exact this)
    have hkd : kdF fs f = f'.kd := by
     unfold kdF ofF;rw [if_pos hk3, hk2f, Option.getD_some, getD_at hf']
    have hk2n : k2 < n := by have := findN_lt hk2f; rw [zu HL] at this; exact this
    have HFI := hide (fun W (h : Below w.heap.size w W) => (by
     have := find_any (some ⟨p, po, none⟩) p po n cu fs f.ov W (zu HL) hn (zu HU W h);rw [findI_some hk2f] at this
     exact this.mono (by rintro e w' ⟨rfl, rfl⟩; exact ⟨rfl, bfl _ _⟩) : Calls Tryz.prog 75 #[.slice (some ⟨p, po, none⟩) n cu, .string f.ov] W fun e w' => e = .returned (.int .i64 (k2 : Int)) ∧ Below W.heap.size W w'))
    obtain ⟨_, f0, f1, f2, f3, f4, f5, f6, f7, f8, f9, f10, f11, f12, f13, f14⟩ := (zu HU _ (zu HB9)).at15 hf';have kg0 := (zu HG _ (zu HB9)).cell (m := 0) rfl;have t3 : (f.kd == 3) = true := by rw [hk3]; rfl
    have HX5 := hide (hide hk2n);have HKD := hide hkd;have q0 := (zu HV9).cell (m := 0) rfl;have q1 := (zu HV9).cell (m := 1) rfl;have q2 := (zu HV9).cell (m := 2) rfl;have q4 := (zu HV9).cell (m := 4) rfl;have q5 := (zu HV9).cell (m := 5) rfl;have q6 := (zu HV9).cell (m := 6) rfl;have q7 := (zu HV9).cell (m := 7) rfl;have q8 := (zu HV9).cell (m := 8) rfl;have q9 := (zu HV9).cell (m := 9) rfl;have q10 := (zu HV9).cell (m := 10) rfl;have q11 := (zu HV9).cell (m := 11) rfl;have q12 := (zu HV9).cell (m := 12) rfl;have q13 := (zu HV9).cell (m := 13) rfl;have q14 := (zu HV9).cell (m := 14) rfl
    have hfz := hide (zu HV9).frozen;have hv9l := (zu HV9).lt;clear hk2f hf' hkd hk2n hk3;go_wp2_with fail;refine Go.Code.wp_mono (Only.to (fun _ _ h => h)) (td7 (hide kg0) (hide q2) (hide f0) (hide f1) (hide f2) (hide f3) (hide f4) (hide f5) (hide f6) (hide f7) (hide f8) (hide f9) (hide f10) (hide f11) (hide f12) (hide f13) (hide f14) hv9l (hide q0) (hide q1) (hide q2) (hide e3) (hide q4) (hide q5) (hide q6) (hide q7) (hide q8) (hide q9) (hide q10) (hide q11) (hide q12) (hide q13) (hide q14) hfz (hide fun X hX => zu HFI X (bc (zu HB9) hX)) (zu HX5) ?_);intro W1 W10 hW10 hb10
    have HB10 : Hid (Below w.heap.size w W10) := hide (by rw [hW10]; exact bel15 (bc (zu HB9) hb10) (by have := (zu HB).size; omega) _ _ _ _ _ _ _ _ _ _ _ _ _ _ _)
    have HR10 : Hid (W10.ownsRow w.heap.size 183 8 (.slice (some ⟨go, 0, none⟩) qn co) qn (flatG sqc (mix T L i))) := hide (own_kept (own_bel (zu HR9) hb10) (fun j hj => by
     have hj' : j ≠ n18 := by have := own_ge (zu HR) j hj; omega
     have := bel15 (B := n18) (bfl n18 W1) (Nat.le_refl _) (.string f'.nm) (.string f'.on) (.string f'.ov) (.int .i64 f'.kd) (.int .i64 f'.sd) (.int .i64 f'.x0) (.int .i64 f'.y0) (.int .i64 f'.z0) (.int .i64 f'.x1) (.int .i64 f'.y1) (.int .i64 f'.z1) (.int .i64 f'.ct) (.int .i64 f'.dx) (.int .i64 f'.dy) (.int .i64 f'.dz);rw [hW10]
     exact this.block j (by have := own_ge (zu HR) j hj; omega)))
    have hv10 := cell15 ((zu HV9).bel hb10) (.string f'.nm) (.string f'.on) (.string f'.ov) (.int .i64 f'.kd) (.int .i64 f'.sd) (.int .i64 f'.x0) (.int .i64 f'.y0) (.int .i64 f'.z0) (.int .i64 f'.x1) (.int .i64 f'.y1) (.int .i64 f'.z1) (.int .i64 f'.ct) (.int .i64 f'.dx) (.int .i64 f'.dy) (.int .i64 f'.dz);rw [← hW10] at hv10;have e3 := hv10.cell (m := 3) rfl;clear hW10 hb10 hv10 kg0 f0 f1 f2 f3 f4 f5 f6 f7 f8 f9 f10 f11 f12 f13 f14 q0 q1 q2 q4 q5 q6 q7 q8 q9 q10 q11 q12 q13 q14 hfz hv9l;generalize f'.kd = kq at *
    by_cases hk2 : kq = 2
    ·have t1 : (kq == 2) = true := by rw [hk2]; rfl
     have t2 : decide (kq = 2) = true := dt hk2;have KK : kdF fs f = 2 := (zu HKD).trans hk2;have HKP : Hid (pkt fs D q.nb = true) := hide (by rw [zu HPK]; exact dt KK);have HTP : Hid (T q = ⟨q.nb, opp q.sd, q.bx⟩) := hide (by rw [zu HTQ, if_pos (zu HKP)]);obtain ⟨go', eg, _, hgl', hcl⟩ := own_rowc sqc_len (zu HR10) (by omega)
     cases eg
     have ks := hcl i q (zu HQM) 1 _ rfl;have fz : W10.frozen? ⟨go, i * 8 + 1, none⟩ = false := own_frz (zu HR10) _;have HRN := hide (own_set (zu HR10) (i * 8 + 1) (.int .i64 ((opp q.sd : Nat) : Int)));have hset := flatG_set1 (c := sqc) (k := 8) sqc_len (l := mix T L i) (i := i) (j := 1) (a := q) (b := ⟨q.nb, opp q.sd, q.bx⟩) (v := .int .i64 ((opp q.sd : Nat) : Int)) (zu HQM) (by omega) rfl;rw [hset, ← zu HTP, zu HMS] at HRN;have HBN := hide (Below.setCell (zu HB10) (show w.heap.size ≤ (⟨go, i * 8 + 1, none⟩ : Addr).block from zu HGO) (.int .i64 ((opp q.sd : Nat) : Int)));clear hset hcl hgl'
     go_wp2_with fail;refine (zu HOP _).mono ?_;rintro e W4 ⟨rfl, rfl⟩;go_wp2_with fail;go_roundw
     case rel => exact ⟨i + 1, by simp, h, zu HRN, zu HBN⟩
     case measure => simp only [intOf]; omega
    ·have t1 : (kq == 2) = false := by simpa using hk2
     have t2 : decide (kq = 2) = false := df hk2;have KK : kdF fs f ≠ 2 := fun e => hk2 ((zu HKD).symm.trans e)
     have HTP : Hid (T q = q) := hide (by rw [zu HTQ, if_neg (by rw [zu HPK]; simpa using KK)]);have HRN := hide (zu HR10);rw [← zu HMZ (zu HTP)] at HRN;go_wp2_with fail;go_roundw
     case rel => exact ⟨i + 1, by simp, h, zu HRN, zu HB10⟩
     case measure => simp only [intOf]; omega
   ·have t3 : (f.kd == 3) = false := by simpa using hk3
    have hkd : kdF fs f = f.kd := by unfold kdF; rw [if_neg hk3]
    have HKD := hide hkd;clear hkd;generalize f.kd = kq at *
    by_cases hk2 : kq = 2
    ·have t1 : (kq == 2) = true := by rw [hk2]; rfl
     have t2 : decide (kq = 2) = true := dt hk2;have KK : kdF fs f = 2 := (zu HKD).trans hk2;have HKP : Hid (pkt fs D q.nb = true) := hide (by rw [zu HPK]; exact dt KK);have HTP : Hid (T q = ⟨q.nb, opp q.sd, q.bx⟩) := hide (by rw [zu HTQ, if_pos (zu HKP)]);obtain ⟨go', eg, _, hgl', hcl⟩ := own_rowc sqc_len (zu HR9) (by omega)
     cases eg
     have ks := hcl i q (zu HQM) 1 _ rfl;have fz : W9.frozen? ⟨go, i * 8 + 1, none⟩ = false := own_frz (zu HR9) _;have HRN := hide (own_set (zu HR9) (i * 8 + 1) (.int .i64 ((opp q.sd : Nat) : Int)));have hset := flatG_set1 (c := sqc) (k := 8) sqc_len (l := mix T L i) (i := i) (j := 1) (a := q) (b := ⟨q.nb, opp q.sd, q.bx⟩) (v := .int .i64 ((opp q.sd : Nat) : Int)) (zu HQM) (by omega) rfl;rw [hset, ← zu HTP, zu HMS] at HRN;have HBN := hide (Below.setCell (zu HB9) (show w.heap.size ≤ (⟨go, i * 8 + 1, none⟩ : Addr).block from zu HGO) (.int .i64 ((opp q.sd : Nat) : Int)));clear hset hcl hgl'
     go_wp2_with fail;refine (zu HOP _).mono ?_;rintro e W4 ⟨rfl, rfl⟩;go_wp2_with fail;go_roundw
     case rel => exact ⟨i + 1, by simp, h, zu HRN, zu HBN⟩
     case measure => simp only [intOf]; omega
    ·have t1 : (kq == 2) = false := by simpa using hk2
     have t2 : decide (kq = 2) = false := df hk2;have KK : kdF fs f ≠ 2 := fun e => hk2 ((zu HKD).symm.trans e)
     have HTP : Hid (T q = q) := hide (by rw [zu HTQ, if_neg (by rw [zu HPK]; simpa using KK)]);have HRN := hide (zu HR9);rw [← zu HMZ (zu HTP)] at HRN;go_wp2_with fail;go_roundw
     case rel => exact ⟨i + 1, by simp, h, zu HRN, zu HB9⟩
     case measure => simp only [intOf]; omega
  ·have i1 : ¬ (i : Int) < (qn : Int) := by omega
   have iz : decide ((i : Int) < (qn : Int)) = false := df i1;have HE := hide (mix_all T (l := L) (i := i) (by rw [zu HQN]; omega));clear hr hb;go_wp2_with fail;go_ret;exact ⟨⟨_, rfl, by rw [← zu HE]; exact zu HR⟩, zu HB⟩
end Go.Proofs.YtkiplmabjeadgaaGreat
