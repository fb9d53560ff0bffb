/- The model's squares. -/
import Derived.Test.YtkiplmabjeadgaaGreatBdS22R
namespace Go.Proofs.YtkiplmabjeadgaaGreat
set_option maxRecDepth 100000
set_option maxHeartbeats 16000000
open Go.ChangeShapes Go.WideShapes Go.ChangeAt Go.RowKit
set_option linter.unusedVariables false
set_option linter.unusedSimpArgs false
theorem info179 : (Tryz.prog.info? 183).map (fun i => (i.zero,i.size,i.bytes)) = some (some (.agg #[.int .i64 0,.int .i64 0,.int .i64 0,.int .i64 0,.int .i64 0,.int .i64 0,.int .i64 0,.int .i64 0]),8,64):=by kernel_rfl
theorem sqc_one (q : Sq) : ∀ u ∈ sqc q,u.oneCell' = true:=by
 intro u hu;simp only [sqc,bxc,List.mem_cons,List.not_mem_nil,or_false] at hu
 rcases hu with rfl | rfl | rfl | rfl | rfl | rfl | rfl | rfl <;> rfl
theorem sqA_none {c : Cs} {k s : Nat} (h : nbr k s = none) : sqA c k s = some ⟨c.by_ k,s,flt k s⟩:=by unfold sqA;rw [h]
theorem sqA_full {c : Cs} {k s m : Nat} (h : nbr k s = some m) (hf : c.full m = true) : sqA c k s = none:=by unfold sqA;rw [h];simp [hf]
theorem sqA_open {c : Cs} {k s m : Nat} (h : nbr k s = some m) (hf : c.full m = false) : sqA c k s = some ⟨max (c.by_ k) (c.by_ m),s,flt k s⟩:=by unfold sqA;rw [h];simp [hf]
theorem sqsM_any (g gf gb : Nat) (l d o : Value) (cf cb : Nat) (c : Cs) (w : World) (hg : vb w g 97 [l,d,.slice (some ⟨gf,0,none⟩) 13824 cf,.slice (some ⟨gb,0,none⟩) 13824 cb,o]) (hc : CsM w gf gb c) :
  Calls Tryz.prog 112 #[.pointer (some ⟨g,0,none⟩)] w fun e w' => (∃ v,e = .returned v ∧ w'.ownsRow w.heap.size 183 8 v (sqs c 13824).length (flatG sqc (sqs c 13824))) ∧ Below w.heap.size w w':=by
 obtain ⟨iT,ht,ht0,ht1,ht2⟩:=info_parts info179;have HG:=hide (fun W (h : Below w.heap.size w W) => hg.bel h);have HC:=hide (fun W (h : Below w.heap.size w W) => hc.bel h);have HR0:=hide (own_made w 183 w.heap.size 8 (Nat.le_refl _) _ rfl);have HD0 : Hid (Below w.heap.size w (w.alloc (.cells #[] 183))):=hide (ba (bfl _ _) _);clear hg hc;go_enter Tryz.func112,Tryz.ntmps112;go_wp2_with fail
 go_loopw [3,4] (fun v s W => ∃ (z q : Nat),s = .int .i64 (z : Int) ∧ z ≤ 24 ∧ (sqs c (z * 576)).length = q ∧ W.ownsRow w.heap.size 183 8 v q (flatG sqc (sqs c (z * 576))) ∧ Below w.heap.size w W) (fun _ s _ => 24 - (intOf s).toNat)
 case atStart => exact ⟨0,0,rfl,by omega,rfl,zu HR0,zu HD0⟩
 case round =>
  obtain ⟨z,q,rfl,hz,hq,hrow,hd⟩:=hrel;have HR:=hide hrow;have HD:=hide hd;have HQ:=hide hq;obtain ⟨ug,cg,rfl,_⟩:=own_form hrow;clear hrow hd hq
  by_cases h : z < 24
  ·have iz : decide ((z : Int) < 24) = true:=dt (by omega)
   have i1 : (z : Int) < 24:=by omega
   have wz : IntKind.i64.wrap ((z : Int) + 1) = ((z + 1 : Nat) : Int):=(wrap_i (by omega) (by omega)).trans (by simp);have e0 : z * 576 = (z * 24 + 0) * 24:=by omega
   rw [e0] at HR HQ;clear e0;go_wp2_with fail
   go_loopw [3,5] (fun v s W => ∃ (y q : Nat),s = .int .i64 (y : Int) ∧ y ≤ 24 ∧ (sqs c ((z * 24 + y) * 24)).length = q ∧ W.ownsRow w.heap.size 183 8 v q (flatG sqc (sqs c ((z * 24 + y) * 24))) ∧ Below w.heap.size w W) (fun _ s _ => 24 - (intOf s).toNat)
   case atStart => exact ⟨0,q,rfl,by omega,zu HQ,zu HR,zu HD⟩
   case round =>
    clear HR HD HQ;obtain ⟨y,q,rfl,hy,hq,hrow,hd⟩:=hrel;have HR:=hide hrow;have HD:=hide hd;have HQ:=hide hq;obtain ⟨ug,cg,rfl,_⟩:=own_form hrow;clear hrow hd hq
    by_cases h' : y < 24
    ·have jz : decide ((y : Int) < 24) = true:=dt (by omega)
     have j1 : (y : Int) < 24:=by omega
     have wy : IntKind.i64.wrap ((y : Int) + 1) = ((y + 1 : Nat) : Int):=(wrap_i (by omega) (by omega)).trans (by simp);go_wp2_with fail
     go_loopw [3,6] (fun v s W => ∃ (x q : Nat),s = .int .i64 (x : Int) ∧ x ≤ 24 ∧ (sqs c ((z * 24 + y) * 24 + x)).length = q ∧ W.ownsRow w.heap.size 183 8 v q (flatG sqc (sqs c ((z * 24 + y) * 24 + x))) ∧ Below w.heap.size w W) (fun _ s _ => 24 - (intOf s).toNat)
     case atStart => exact ⟨0,q,rfl,by omega,zu HQ,zu HR,zu HD⟩
     case round =>
      clear HR HD HQ;obtain ⟨x,q,rfl,hx,hq,hrow,hd⟩:=hrel;have HR:=hide hrow;have HD:=hide hd;have HQ:=hide hq;obtain ⟨ug,cg,rfl,_⟩:=own_form hrow;clear hrow hd hq
      by_cases h'' : x < 24
      ·have lz : decide ((x : Int) < 24) = true:=dt (by omega)
       have l1 : (x : Int) < 24:=by omega
       have wx : IntKind.i64.wrap ((x : Int) + 1) = ((x + 1 : Nat) : Int):=(wrap_i (by omega) (by omega)).trans (by simp);have HAT:=hide (fun W => mAt_any x y z W (by omega) (by omega) (by omega));have hK : at3 x y z < 13824:=at3_lt (by omega) (by omega) (by omega);have eK : (z * 24 + y) * 24 + x = at3 x y z:=rfl;have eK1 : (z * 24 + y) * 24 + (x + 1) = at3 x y z + 1:=rfl;have ecx:=at3_cx (x:=x) (y:=y) (z:=z) h'' h';have ecy:=at3_cy (x:=x) (y:=y) (z:=z) h'' h';have ecz:=at3_cz (x:=x) (y:=y) (z:=z) h'' h';rw [eK] at HR HQ;have HE1:=hide eK1;have HX:=hide ecx
       have HY:=hide ecy;have HZ:=hide ecz;clear eK eK1 ecx ecy ecz;generalize at3 x y z = kk at *;have HK:=hide hK;have kg2:=(zu HG _ (zu HD)).cell (m:=2) rfl;have cf0:=(zu HC _ (zu HD)).cf hK;have K0 : (0 : Int) ≤ (kk : Int):=Int.natCast_nonneg _;have K1 : (kk : Int) < 13824:=by omega
       have kz : decide ((kk : Int) < 13824) = true:=dt K1;have HSU:=hide (sqs_succ c kk)
       cases hf : c.full kk with
       | false =>
        rw [hf] at cf0;have HE:=hide (sqC_empty hf 6);clear hf;go_wp2_with fail;refine (zu HAT _).mono ?_;rintro e W4 ⟨rfl,rfl⟩;go_wp2_with fail;go_roundw
        case rel => exact ⟨x + 1,q,by simp,h'',by rw [zu HE1,zu HSU,zu HE,List.append_nil];exact zu HQ,by rw [zu HE1,zu HSU,zu HE,List.append_nil];exact zu HR,zu HD⟩
        case measure => simp only [intOf];omega
       | true =>
        rw [hf] at cf0;have HF:=hide hf;clear hf;have HZ0:=hide (sqC_zero c kk);have hq6:=sqs_len c kk;rw [zu HQ] at hq6;go_wp2_with fail;refine (zu HAT _).mono ?_;rintro e W4 ⟨rfl,rfl⟩;go_wp2_with fail;clear kg2 cf0
        go_loopw [3,8] (fun v s W => ∃ (sd t : Nat),s = .int .i64 (sd : Int) ∧ 1 ≤ sd ∧ sd ≤ 7 ∧ t ≤ 6 * kk + sd ∧ (sqs c kk ++ sqC c kk (sd - 1)).length = t ∧ W.ownsRow w.heap.size 183 8 v t (flatG sqc (sqs c kk ++ sqC c kk (sd - 1))) ∧ Below w.heap.size w W) (fun _ s _ => 7 - (intOf s).toNat)
        case atStart => exact ⟨1,q,rfl,by omega,by omega,by omega,by rw [Nat.sub_self,zu HZ0,List.append_nil];exact zu HQ,by rw [Nat.sub_self,zu HZ0,List.append_nil];exact zu HR,zu HD⟩
        case round =>
         clear HR HD HQ hq6;obtain ⟨sd,t,rfl,hs1,hs7,ht6,hq,hrow,hd⟩:=hrel;have HR:=hide hrow;have HD:=hide hd;have HQ:=hide hq;obtain ⟨ug,cg,rfl,_⟩:=own_form hrow;clear hrow hd hq
         by_cases h3 : sd ≤ 6
         ·have mz : decide ((sd : Int) ≤ 6) = true:=dt (by omega)
          have m1 : (sd : Int) ≤ 6:=by omega
          have ws : IntKind.i64.wrap ((sd : Int) + 1) = ((sd + 1 : Nat) : Int):=(wrap_i (by omega) (by omega)).trans (by simp);have HSC : Hid (sqC c kk sd = sqC c kk (sd - 1) ++ (sqA c kk sd).toList):=hide (by have:=sqC_succ (zu HF) (sd - 1);rw [show sd - 1 + 1 = sd by omega] at this;exact this);have HS1 : Hid (sd + 1 - 1 = sd):=hide (by omega);have HST:=hide (fun W => mStep_any sd W ⟨hs1,h3⟩);have hni:=nbr_in (zu HK) ⟨hs1,h3⟩;rw [zu HX,zu HY,zu HZ] at hni;have HFT:=hide (fun W => mFlat_any kk sd W (zu HK) ⟨hs1,h3⟩);rw [zu HX,zu HY,zu HZ] at HFT
          have hdx : -1 ≤ (stp sd).1 ∧ (stp sd).1 ≤ 1 ∧ -1 ≤ (stp sd).2.1 ∧ (stp sd).2.1 ≤ 1 ∧ -1 ≤ (stp sd).2.2 ∧ (stp sd).2.2 ≤ 1:=by unfold stp;split <;> simp
          generalize hd1 : (stp sd).1 = dx at *;generalize hd2 : (stp sd).2.1 = dy at *;generalize hd3 : (stp sd).2.2 = dz at *;clear hd1 hd2 hd3;have wX : IntKind.i64.wrap ((x : Int) + dx) = (x : Int) + dx:=wrap_i (by omega) (by omega);have wY : IntKind.i64.wrap ((y : Int) + dy) = (y : Int) + dy:=wrap_i (by omega) (by omega);have wZ : IntKind.i64.wrap ((z : Int) + dz) = (z : Int) + dz:=wrap_i (by omega) (by omega);have HIN:=hide (fun W => mInside_any ((x : Int) + dx) ((y : Int) + dy) ((z : Int) + dz) W);obtain ⟨hin,hnm⟩:=hni;rw [hin] at HIN;clear hin hdx
          have kg2:=(zu HG _ (zu HD)).cell (m:=2) rfl;have kg3:=(zu HG _ (zu HD)).cell (m:=3) rfl;have cbk:=(zu HC _ (zu HD)).cb (zu HK);have HKH:=hide (hide (zu HK))
          have hfl : ∃ q,flt kk sd = q:=⟨_,rfl⟩
          obtain ⟨⟨f0,f1,f2,f3,f4,f5⟩,hfl⟩:=hfl;rw [hfl] at HFT
          cases hn : nbr kk sd with
          | none =>
           rw [hn] at HIN;simp only [Option.isSome_none] at HIN;have HSA:=hide (sqA_none (c:=c) hn);rw [hfl] at HSA;clear hn hnm hfl kg2;generalize c.by_ kk = yk at *;have g1 : decide ((yk : Int) < 0) = false:=df (by omega);have g2 : decide ((0 : Int) > (yk : Int)) = false:=df (by omega);have g3 : ¬ (yk : Int) < 0:=by omega
           go_wp2_with fail;refine (zu HST _).mono ?_;rintro e W4 ⟨rfl,rfl⟩;go_wp2_with fail;refine (zu HIN _).mono ?_;rintro e W4 ⟨rfl,rfl⟩;go_wp2_with fail;refine Go.Code.wp_mono (Only.to (fun _ _ h => h)) (sq22 (hide kg3) (hide cbk) (zu HKH) (hide fun X _ => zu HFT X) ?_);intro n14 W9 hb9 hv9 hn9;have HD8:=hide (bc (zu HD) hb9);have HR8:=hide (own_bel (zu HR) hb9);have HV8:=hide hv9;have e0:=hv9.cell (m:=0) rfl;have fz:=hv9.frozen 0;clear hb9 hv9 kg3 cbk;have HD9:=hide (zu HD8);have HR9:=hide (zu HR8);have HV9:=hide (zu HV8);clear HD8 HR8 HV8
           have c0:=(zu HV9).cell (m:=0) rfl;have c1:=(zu HV9).cell (m:=1) rfl;have c2:=(zu HV9).cell (m:=2) rfl;have c3:=(zu HV9).cell (m:=3) rfl;have c4:=(zu HV9).cell (m:=4) rfl;have c5:=(zu HV9).cell (m:=5) rfl;have c6:=(zu HV9).cell (m:=6) rfl;have c7:=(zu HV9).cell (m:=7) rfl
           go_wp2_with (at_builtin;refine zu ?_)
           refine hide ?_;refine wpList_append_own _ rfl _ _ 130 rfl w.heap.size 183 iT _ 8 64 Tryz.underlying130 ht ht0 ht1 ht2 rfl (by decide) _ t _ rfl (own_bel (zu HR9) (ba (bfl _ _) _)) _ 1 1 (sqc ⟨yk,sd,⟨f0,f1,f2,f3,f4,f5⟩⟩) rfl rfl (by first | exact news_cells _ _ rfl | exact news_cells _ _ (by simp)) (sqc_one _) (by unfold maxLen;omega) (by omega) (Nat.le_trans (zu HD9).size (by simp)) ?_;intro v' w1 hown' hgrow _;have R:=hide (own_app (Below.alloc (bfl w.heap.size _) (zu HD9).size _) (Nat.le_trans (zu HD9).size (by simp)) (zu HR9) hown' hgrow);clear hown' hgrow
           go_wp2_with fail;go_roundw
           case rel => exact ⟨sd + 1,t + 1,by simp,by omega,by omega,by omega,by rw [zu HS1,zu HSC,zu HSA,Option.toList_some,← List.append_assoc,List.length_append,zu HQ];rfl,by rw [zu HS1,zu HSC,zu HSA,Option.toList_some,← List.append_assoc];exact (zu R).1,(zu HD9).trans (zu R).2⟩
           case measure => simp only [intOf];omega
          | some m =>
           rw [hn] at HIN;simp only [Option.isSome_some] at HIN;obtain ⟨hX,hY,hZ⟩:=hnm m hn;have hm:=nbr_lt (zu HK) hn;have hmx:=cx_lt m;have hmy:=cy_lt m;have hmz:=cz_lt hm;have HAM:=hide (fun W => mAt_any (cx m) (cy m) (cz m) W (by omega) (by omega) (by omega));rw [at3_c,← hX,← hY,← hZ] at HAM;have cfm:=(zu HC _ (zu HD)).cf hm;have cbm:=(zu HC _ (zu HD)).cb hm;have M0 : (0 : Int) ≤ (m : Int):=Int.natCast_nonneg _;have M1 : (m : Int) < 13824:=by omega
           have mz2 : decide ((m : Int) < 13824) = true:=dt M1;clear hX hY hZ hm hmx hmy hmz hnm
           cases hf : c.full m with
           | true =>
            have HSA:=hide (sqA_full hn hf);rw [hf] at cfm;clear hn hf hfl;go_wp2_with fail;refine (zu HST _).mono ?_;rintro e W4 ⟨rfl,rfl⟩;go_wp2_with fail;refine (zu HIN _).mono ?_;rintro e W4 ⟨rfl,rfl⟩;go_wp2_with fail;refine (zu HAM _).mono ?_;rintro e W4 ⟨rfl,rfl⟩;go_wp2_with fail;go_roundw
            case rel => exact ⟨sd + 1,t,by simp,by omega,by omega,by omega,by rw [zu HS1,zu HSC,zu HSA,Option.toList_none,List.append_nil];exact zu HQ,by rw [zu HS1,zu HSC,zu HSA,Option.toList_none,List.append_nil];exact zu HR,zu HD⟩
            case measure => simp only [intOf];omega
           | false =>
            have HSA:=hide (sqA_open hn hf);rw [hf] at cfm;rw [hfl] at HSA;clear hn hf hfl;generalize c.by_ kk = yk at *;generalize c.by_ m = ym at *;go_wp2_with fail;refine (zu HST _).mono ?_;rintro e W4 ⟨rfl,rfl⟩;go_wp2_with fail;refine (zu HIN _).mono ?_;rintro e W4 ⟨rfl,rfl⟩;go_wp2_with fail;refine (zu HAM _).mono ?_;rintro e W4 ⟨rfl,rfl⟩;go_wp2_with fail;refine Go.Code.wp_mono (Only.to (fun _ _ h => h)) (sq22 (hide kg3) (hide cbk) (zu HKH) (hide fun X _ => zu HFT X) ?_);intro n14 W9 hb9 hv9 hn9;have HD8:=hide (bc (zu HD) hb9);have HR8:=hide (own_bel (zu HR) hb9)
            have HV8:=hide hv9;have e0:=hv9.cell (m:=0) rfl;have fz:=hv9.frozen 0;clear hb9 hv9 kg3 cbk
            by_cases hlt : yk < ym
            ·have g1 : decide ((yk : Int) < (ym : Int)) = true:=dt (by omega)
             have g2 : decide ((ym : Int) > (yk : Int)) = true:=dt (by omega);have g3 : (yk : Int) < (ym : Int):=by omega
             have hmax : max yk ym = ym:=Nat.max_eq_right (by omega);rw [hmax] at HSA;clear hmax hlt;have HV9:=hide ((zu HV8).set 0 (.int .i64 (ym : Int)));have HD9:=hide (Below.setCell (zu HD8) (by have:=(zu HD).size;omega : w.heap.size ≤ n14) (p:=⟨n14,0,none⟩) (.int .i64 (ym : Int)));have HR9:=hide (own_kept (zu HR8) (w':=W9.setCell ⟨n14,0,none⟩ (.int .i64 (ym : Int))) (fun j hj => Below.heap_setCell _ _ _ _ (by have:=own_ge (zu HR) j hj;show j ≠ n14;omega)));have c0:=(zu HV9).cell (m:=0) rfl;have c1:=(zu HV9).cell (m:=1) rfl
             have c2:=(zu HV9).cell (m:=2) rfl;have c3:=(zu HV9).cell (m:=3) rfl;have c4:=(zu HV9).cell (m:=4) rfl;have c5:=(zu HV9).cell (m:=5) rfl;have c6:=(zu HV9).cell (m:=6) rfl;have c7:=(zu HV9).cell (m:=7) rfl;simp only [List.set_cons_zero] at c0 c1 c2 c3 c4 c5 c6 c7
             go_wp2_with (at_builtin;refine zu ?_)
             refine hide ?_;refine wpList_append_own _ rfl _ _ 130 rfl w.heap.size 183 iT _ 8 64 Tryz.underlying130 ht ht0 ht1 ht2 rfl (by decide) _ t _ rfl (own_bel (zu HR9) (ba (bfl _ _) _)) _ 1 1 (sqc ⟨ym,sd,⟨f0,f1,f2,f3,f4,f5⟩⟩) rfl rfl (by first | exact news_cells _ _ rfl | exact news_cells _ _ (by simp)) (sqc_one _) (by unfold maxLen;omega) (by omega) (Nat.le_trans (zu HD9).size (by simp)) ?_;intro v' w1 hown' hgrow _;have R:=hide (own_app (Below.alloc (bfl w.heap.size _) (zu HD9).size _) (Nat.le_trans (zu HD9).size (by simp)) (zu HR9) hown' hgrow);clear hown' hgrow
             go_wp2_with fail;go_roundw
             case rel => exact ⟨sd + 1,t + 1,by simp,by omega,by omega,by omega,by rw [zu HS1,zu HSC,zu HSA,Option.toList_some,← List.append_assoc,List.length_append,zu HQ];rfl,by rw [zu HS1,zu HSC,zu HSA,Option.toList_some,← List.append_assoc];exact (zu R).1,(zu HD9).trans (zu R).2⟩
             case measure => simp only [intOf];omega
            ·have g1 : decide ((yk : Int) < (ym : Int)) = false:=df (by omega)
             have g2 : decide ((ym : Int) > (yk : Int)) = false:=df (by omega);have g3 : ¬ (yk : Int) < (ym : Int):=by omega
             have hmax : max yk ym = yk:=Nat.max_eq_left (by omega);rw [hmax] at HSA;clear hmax hlt;have HD9:=hide (zu HD8);have HR9:=hide (zu HR8);have HV9:=hide (zu HV8);clear HD8 HR8 HV8;have c0:=(zu HV9).cell (m:=0) rfl;have c1:=(zu HV9).cell (m:=1) rfl;have c2:=(zu HV9).cell (m:=2) rfl;have c3:=(zu HV9).cell (m:=3) rfl;have c4:=(zu HV9).cell (m:=4) rfl;have c5:=(zu HV9).cell (m:=5) rfl;have c6:=(zu HV9).cell (m:=6) rfl;have c7:=(zu HV9).cell (m:=7) rfl
             go_wp2_with (at_builtin;refine zu ?_)
             refine hide ?_;refine wpList_append_own _ rfl _ _ 130 rfl w.heap.size 183 iT _ 8 64 Tryz.underlying130 ht ht0 ht1 ht2 rfl (by decide) _ t _ rfl (own_bel (zu HR9) (ba (bfl _ _) _)) _ 1 1 (sqc ⟨yk,sd,⟨f0,f1,f2,f3,f4,f5⟩⟩) rfl rfl (by first | exact news_cells _ _ rfl | exact news_cells _ _ (by simp)) (sqc_one _) (by unfold maxLen;omega) (by omega) (Nat.le_trans (zu HD9).size (by simp)) ?_;intro v' w1 hown' hgrow _;have R:=hide (own_app (Below.alloc (bfl w.heap.size _) (zu HD9).size _) (Nat.le_trans (zu HD9).size (by simp)) (zu HR9) hown' hgrow);clear hown' hgrow
             go_wp2_with fail;go_roundw
             case rel => exact ⟨sd + 1,t + 1,by simp,by omega,by omega,by omega,by rw [zu HS1,zu HSC,zu HSA,Option.toList_some,← List.append_assoc,List.length_append,zu HQ];rfl,by rw [zu HS1,zu HSC,zu HSA,Option.toList_some,← List.append_assoc];exact (zu R).1,(zu HD9).trans (zu R).2⟩
             case measure => simp only [intOf];omega
         ·have mz : decide ((sd : Int) ≤ 6) = false:=df (by omega)
          have m1 : ¬ (sd : Int) ≤ 6:=by omega
          obtain rfl : sd = 7:=by omega
          have HE7 : Hid (sqs c kk ++ sqC c kk (7 - 1) = sqs c (kk + 1)):=hide (zu HSU).symm;rw [zu HE7] at HR HQ;go_wp2_with fail;go_roundw
          case rel => exact ⟨x + 1,t,by simp,h'',by rw [zu HE1];exact zu HQ,by rw [zu HE1];exact zu HR,zu HD⟩
          case measure => simp only [intOf];omega
      ·have lz : decide ((x : Int) < 24) = false:=df (by omega)
       have l1 : ¬ (x : Int) < 24:=by omega
       obtain rfl : x = 24:=by omega
       have e0 : (z * 24 + y) * 24 + 24 = (z * 24 + (y + 1)) * 24:=by omega
       rw [e0] at HR HQ;clear e0;go_wp2_with fail;go_roundw
       case rel => exact ⟨y + 1,q,by simp,h',zu HQ,zu HR,zu HD⟩
       case measure => simp only [intOf];omega
    ·have jz : decide ((y : Int) < 24) = false:=df (by omega)
     have j1 : ¬ (y : Int) < 24:=by omega
     obtain rfl : y = 24:=by omega
     have e0 : (z * 24 + 24) * 24 = (z + 1) * 576:=by omega
     rw [e0] at HR HQ;clear e0;go_wp2_with fail;go_roundw
     case rel => exact ⟨z + 1,q,by simp,h,zu HQ,zu HR,zu HD⟩
     case measure => simp only [intOf];omega
  ·have iz : decide ((z : Int) < 24) = false:=df (by omega)
   have i1 : ¬ (z : Int) < 24:=by omega
   obtain rfl : z = 24:=by omega
   go_wp2_with fail;go_ret;exact ⟨⟨_,rfl,by rw [zu HQ];exact zu HR⟩,zu HD⟩
end Go.Proofs.YtkiplmabjeadgaaGreat
