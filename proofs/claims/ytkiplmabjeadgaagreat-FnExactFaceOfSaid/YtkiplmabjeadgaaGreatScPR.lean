/- NameOK of the program answers as the model at every text. -/
import Derived.Test.YtkiplmabjeadgaaGreatMpFR
import Derived.Lib.SliceRun
import Derived.Test.YtkiplmabjeadgaaGreatNmAtR
import Derived.Lib.MinMax
import Derived.Test.YtkiplmabjeadgaaGreatBdMemR
import Derived.Test.YtkiplmabjeadgaaGreatLettersR
import Derived.ChangeOld
import Derived.Below
import Derived.ShutString
namespace Go.Proofs.YtkiplmabjeadgaaGreat
set_option maxRecDepth 100000
set_option maxHeartbeats 16000000
open Go.ChangeShapes Go.WideShapes Go.ChangeAt Go.RowKit
set_option linter.unusedVariables false
set_option linter.unusedSimpArgs false
theorem StAns.at {s : Nat → Option Nat} {n goal m L : Nat} {st : List Nat} (h : StAns s n goal st) (f : First s m goal L) (hm : m < n) : st[m]? = some L:=by
 obtain ⟨x,hx⟩:=get_some h.1 hm
 rcases Nat.eq_zero_or_pos x with e | e
 ·subst e
  exact (h.2.2 m hx L f).elim
 ·rw [hx,(h.2.1 m x hx e).uniq f]
theorem path_last (s : Nat → Option Nat) (t i : Nat) : (path s (t + 1) i)[t]? = some ((it s t i).getD 0):=by
 show (path s t i ++ _)[t]? = _
 rw [List.getElem?_append_right (by rw [path_len];omega),path_len,Nat.sub_self];rfl
theorem circP_any (u : Option Addr) (n cu gs i0 L : Nat) (nm : List (List Nat)) (st : List Nat) (w : World) (hl : nm.length = n) (hn : n ≤ 4000) (hi0 : i0 < n) (hu : NmAt w u nm) (ho : Oneful nm) (hst : StAns (sc nm) n i0 st) (hv : vb w gs 3 (natV st)) (hL : st[i0]? = some L) (hLp : 0 < L) :
  Calls Tryz.prog 177 #[.slice u n cu,.slice (some ⟨gs,0,none⟩) n n,.int .i64 (i0 : Int)] w fun e w' => ∃ v,e = .returned v ∧ w'.ownsRow w.heap.size 3 1 v L (natV (path (sc nm) L i0)) ∧ Below w.heap.size w w':=by
 obtain ⟨iI,hi,hz0,hz1,hz2⟩:=info_parts info3;have hF:=hst.2.1 i0 L hL hLp;have hLn:=hF.le ho;rw [hl] at hLn;have HU:=hide hu;have HN:=hide hl;have HO:=hide ho;have HST:=hide hst;have HF:=hide hF;have HVS:=hide (hv.bel (ba (bfl w.heap.size w) (.cells #[.int .i64 (i0 : Int)] 3)));have HV:=hide hv;have k0:=hv.cell (natV_at hL);have k0':=ka (o:=.cells #[.int .i64 (i0 : Int)] 3) k0;have i1 : (i0 : Int) < (n : Int):=by omega
 have iz : (0 : Int) ≤ (i0 : Int):=Int.natCast_nonneg _;have HR0:=hide ((vb_new w 3 (natV [i0]) _ rfl).owns (B:=w.heap.size) (n:=1) (Nat.le_refl _) rfl (by decide));have HB0:=hide (ba (bfl w.heap.size w) (.cells #[.int .i64 (i0 : Int)] 3));clear hu hl ho hst hF hv hL;go_enter Tryz.func177,Tryz.ntmps177;go_wp2_with fail;clear k0 k0'
 go_loopw [7,8] (fun v s W => ∃ t : Nat,0 < t ∧ t ≤ L ∧ s = .int .i64 ((L : Int) - (t : Int)) ∧ W.ownsRow w.heap.size 3 1 v t (natV (path (sc nm) t i0)) ∧ Below w.heap.size w W) (fun _ s _ => (intOf s).toNat)
 case atStart => exact ⟨1,by omega,hLp,by simp,zu HR0,zu HB0⟩
 case round =>
  obtain ⟨t,ht0,htL,rfl,hown,hw⟩:=hrel;rename World => W1
  obtain ⟨uv,cv,rfl,_,_,hfv⟩:=own_form hown;have HOW:=hide hown;have HW:=hide hw;clear hown hw HR0 HB0
  by_cases h : t < L
  ·have t1 : (0 : Int) < (L : Int) - (t : Int):=by omega
   have tz : decide ((0 : Int) < (L : Int) - (t : Int)) = true:=dt t1;obtain ⟨gv,rfl,hgv1,hgv2,hcr⟩:=hfv (by omega);obtain ⟨p,hp,fp⟩:=(zu HF).rest (show t - 1 < L by omega);obtain ⟨r,hr,fr⟩:=(zu HF).rest h
   have hpr : sc nm p = some r:=by
    rw [show t = t - 1 + 1 by omega,it,hp] at hr;exact hr
   obtain ⟨hpn,hrn⟩:=sc_lt (zu HO) hpr;rw [zu HN] at hpn hrn
   have hpl : (path (sc nm) t i0)[t - 1]? = some p:=by
    have:=path_last (sc nm) (t - 1) i0;rw [show t - 1 + 1 = t by omega,hp] at this;exact this
   have k1:=hcr (t - 1) _ (natV_at hpl);have e1 : ((t : Int) - 1) = ((t - 1 : Nat) : Int):=by omega
   have e2 : ((t - 1 : Nat) : Int) < (t : Int):=by omega
   have e3 : (0 : Int) ≤ ((t - 1 : Nat) : Int):=Int.natCast_nonneg _;have p1 : (p : Int) < (n : Int):=by omega
   have p0 : (0 : Int) ≤ (p : Int):=Int.natCast_nonneg _;have r1 : (r : Int) < (n : Int):=by omega
   have r0 : (0 : Int) ≤ (r : Int):=Int.natCast_nonneg _
   have hnp : nm[p]? = some [r]:=by
    rcases (zu HO).at (by rw [zu HN];exact hpn) with ⟨_,e⟩ | ⟨q,_,e,e'⟩
    ·rw [hpr] at e;cases e
    ·rw [hpr] at e';cases e';exact e
   obtain ⟨gn,on,rfl,xv,xc,hcx,hin⟩:=((zu HU).bel (zu HW)).at hnp;obtain ⟨bx,qx,rfl,hcell⟩:=hin (by simp);have k2:=hcell 0 r rfl
   have hpth : path (sc nm) (t + 1) i0 = path (sc nm) t i0 ++ [r]:=by
    show path (sc nm) t i0 ++ [(it (sc nm) t i0).getD 0] = _
    rw [hr];rfl
   have HPT:=hide hpth;have k3:=((zu HV).below (zu HW) (zu HV).lt).cell (natV_at ((zu HST).at fr hrn));have e4 : ((L - t : Nat) : Int) = (L : Int) - (t : Int):=by omega
   rw [e4] at k3;clear hcr hfv hp hr hpr hpl hnp hin hcell hpth fp fr e4;simp only [List.length_singleton,Nat.add_zero] at hcx k2;generalize hq : t - 1 = tm at *;have HQ:=hide hq;clear hq;have hww : IntKind.i64.wrap ((L : Int) - (t : Int) - 1) = (L : Int) - ((t + 1 : Nat) : Int):=by rw [wrap_i (by omega) (by omega)];omega
   go_wp2_with fail;have HC:=hide hcx;have K2:=hide k2;have K3:=hide k3;clear k1 hcx k2 k3 e1 e2 e3
   go_loopw [7,32] (fun v s W => v = .slice (some ⟨gv,0,none⟩) t cv ∧ s = .int .i64 0 ∧ W = W1) (fun _ s _ => 1 - (intOf s).toNat)
   case atStart => exact ⟨rfl,rfl,rfl⟩
   case round =>
    obtain ⟨rfl,rfl,hww1⟩:=hrel;subst hww1;rename World => W1
    have k2:=zu K2;have k3:=zu K3
    go_wp2_with (at_builtin;refine zu ?_)
    refine hide ?_;clear k2 k3;refine wpList_append_own _ rfl _ _ 94 rfl w.heap.size 3 iI _ 1 8 Tryz.underlying94 hi hz0 hz1 hz2 rfl (by decide) _ t _ rfl ((zu HOW).alloc _) _ 1 1 (natV [r]) rfl rfl (by first | exact news_cells _ _ rfl | exact news_cells _ _ (by simp)) (by intro u hu;simp only [natV,List.map_cons,List.map_nil,List.mem_singleton] at hu;subst hu;rfl) (by unfold maxLen;omega) (by omega) (Nat.le_trans (zu HW).size (by simp)) ?_;intro v' w1 hown' hgrow _
    have hbw : Below w.heap.size w w1:=((zu HW).alloc (zu HW).size _).grown hgrow (Nat.le_trans (zu HW).size (by simp)) (fun g hg => (own_ge (zu HOW) g hg).1)
    have hown2 : w1.ownsRow w.heap.size 3 1 v' (t + 1) (natV (path (sc nm) (t + 1) i0)):=by
     rw [zu HPT];have e : natV (path (sc nm) t i0 ++ [r]) = natV (path (sc nm) t i0) ++ natV [r]:=by simp [natV]
     rw [e];exact hown'
    have HO2:=hide hown2;have HBW:=hide hbw;clear hown' hgrow hown2 hbw;go_wp2_with fail;go_roundw
    case rel => exact ⟨t + 1,by omega,by omega,by first | rfl | (simp only [Value.int.injEq,true_and];omega),zu HO2,zu HBW⟩
    case measure => simp only [intOf];omega
  ·have t1 : ¬ (0 : Int) < (L : Int) - (t : Int):=by omega
   have tz : decide ((0 : Int) < (L : Int) - (t : Int)) = false:=df t1;have htl : L = t:=by omega
   subst htl;clear hfv;go_wp2_with fail;go_ret;exact ⟨_,rfl,zu HOW,zu HW⟩
theorem shortP_any (u : Option Addr) (n cu : Nat) (nm : List (List Nat)) (w : World) (hl : nm.length = n) (hn : n ≤ 4000) (hu : NmAt w u nm) (ho : Oneful nm) :
  Calls Tryz.prog 151 #[.slice u n cu] w fun e w' => (∃ v b,e = .returned v ∧ Bst (sc nm) n b ∧ w'.ownsRow w.heap.size 3 1 v b.length (natV b)) ∧ Below w.heap.size w w':=by
 have HU:=hide hu;have HN:=hide hl;have HO:=hide ho;clear hu hl ho;have hnil : ∀ (W : World) (a : Option Addr) (l c : Nat),(binOp .eql 94 (.slice a l c) (.slice none 0 0)).run Tryz.prog W = .ok (.bool a.isNone) W:=fun W a l c => Lib.run_eql_slice_nil W 94 3 a l c 0 0 Tryz.underlying94
 go_enter Tryz.func151,Tryz.ntmps151;go_wp2_with fail
 go_loopw [3,8] (fun v s W => ∃ (k : Nat) (b : List Nat),s = .int .i64 (k : Int) ∧ k ≤ n ∧ Bst (sc nm) k b ∧ W.ownsRow w.heap.size 3 1 v b.length (natV b) ∧ (b = [] → v = .slice none 0 0) ∧ Below w.heap.size w W) (fun _ s _ => n - (intOf s).toNat)
 case atStart => exact ⟨0,[],rfl,Nat.zero_le _,rfl,own_nil _ _ _ _,fun _ => rfl,bfl _ _⟩
 case round =>
  obtain ⟨k,b,rfl,hkn,hbst,hown,hnl,hw⟩:=hrel;rename World => W1
  obtain ⟨ub,cb,rfl,_,_,hfb⟩:=own_form hown;have HB:=hide hbst;have HOW:=hide hown;have HNL:=hide hnl;have HW:=hide hw;clear hbst hown hnl hw
  by_cases h : k < n
  ·have k1 : (k : Int) < (n : Int):=by omega
   have k0 : (0 : Int) ≤ (k : Int):=Int.natCast_nonneg _;have kz : decide ((k : Int) < (n : Int)) = true:=dt k1;have HS:=hide (stepsP_any u n cu k nm W1 (zu HN) hn h ((zu HU).bel (zu HW)) (zu HO));go_wp2_with fail;refine (zu HS).mono ?_;rintro e W2 ⟨⟨st,rfl,hvb,hst⟩,hb⟩;obtain ⟨L,hL⟩:=get_some hst.1 h;have c1:=hvb.cell (natV_at hL);have HW2:=hide (bc (zu HW) hb);have HOW2:=hide (own_bel (zu HOW) hb);have HV:=hide hvb;have HST:=hide hst;have HL:=hide hL;clear hvb hst hL hb HS
   by_cases hL0 : 0 < L
   ·have l1 : (0 : Int) < (L : Int):=by omega
    have lz : decide ((0 : Int) < (L : Int)) = true:=dt l1;have hcy : Cyc (sc nm) k (path (sc nm) L k):=.inl ⟨L,(zu HST).2.1 k L (zu HL) hL0,rfl⟩;have HB1 : Hid (Bst (sc nm) (k + 1) (better b (path (sc nm) L k))):=hide ⟨b,_,zu HB,hcy,rfl⟩;have HCC:=hide (fun W (hb : Below W2.heap.size W2 W) => circP_any u n cu W1.heap.size k L nm st W (zu HN) hn h ((zu HU).bel (bc (zu HW2) hb)) (zu HO) (zu HST) ((zu HV).bel hb) (zu HL) hL0);clear hcy
    by_cases hb0 : b = []
    ·have e:=zu HNL hb0
     simp only [Value.slice.injEq] at e;obtain ⟨rfl,e2,rfl⟩:=e;have hbt : better b (path (sc nm) L k) = path (sc nm) L k:=if_pos ⟨by rw [path_len];exact hL0,.inl e2⟩;rw [hbt] at HB1;clear hbt hb0;go_wp2_with fail;refine (zu HCC _ (bfl _ _)).mono ?_;rintro e W3 ⟨vc,rfl,hrc,hb3⟩;have HW3:=hide (bc (zu HW2) hb3);have HRC:=hide (own_mono hrc (zu HW2).size);clear hrc hb3;go_wp2_with fail;go_roundw
     case rel => exact ⟨k + 1,path (sc nm) L k,by simp,h,zu HB1,by rw [path_len];exact zu HRC,fun e => by have:=congrArg List.length e;rw [path_len] at this;simp at this;omega,zu HW3⟩
     case measure => simp only [intOf];omega
    ·have hbp : b.length ≠ 0:=fun e => hb0 (List.eq_nil_of_length_eq_zero e)
     obtain ⟨gb,rfl,_⟩:=hfb hbp
     by_cases hlt : L < b.length
     ·have m1 : (L : Int) < (b.length : Int):=by omega
      have mz : decide ((L : Int) < (b.length : Int)) = true:=dt m1;have hbt : better b (path (sc nm) L k) = path (sc nm) L k:=if_pos ⟨by rw [path_len];exact hL0,.inr (by rw [path_len];exact hlt)⟩;rw [hbt] at HB1;clear hbt hb0;go_wp2_with fail;refine (zu HCC _ (bfl _ _)).mono ?_;rintro e W3 ⟨vc,rfl,hrc,hb3⟩;have HW3:=hide (bc (zu HW2) hb3);have HRC:=hide (own_mono hrc (zu HW2).size);clear hrc hb3;go_wp2_with fail;go_roundw
      case rel => exact ⟨k + 1,path (sc nm) L k,by simp,h,zu HB1,by rw [path_len];exact zu HRC,fun e => by have:=congrArg List.length e;rw [path_len] at this;simp at this;omega,zu HW3⟩
      case measure => simp only [intOf];omega
     ·have m1 : ¬ (L : Int) < (b.length : Int):=by omega
      have mz : decide ((L : Int) < (b.length : Int)) = false:=df m1;have hbt : better b (path (sc nm) L k) = b:=if_neg (by rw [path_len];omega);rw [hbt] at HB1;clear hbt;go_wp2_with fail;go_roundw
      case rel => exact ⟨k + 1,b,by simp,h,zu HB1,zu HOW2,fun e => (hb0 e).elim,zu HW2⟩
      case measure => simp only [intOf];omega
   ·have l1 : ¬ (0 : Int) < (L : Int):=by omega
    have lz : decide ((0 : Int) < (L : Int)) = false:=df l1;have hL00 : L = 0:=by omega
    have hcy : Cyc (sc nm) k []:=.inr ⟨(zu HST).2.2 k (by rw [zu HL,hL00]),rfl⟩;have HB1 : Hid (Bst (sc nm) (k + 1) (better b [])):=hide ⟨b,_,zu HB,hcy,rfl⟩;rw [show better b [] = b from if_neg (by simp)] at HB1;clear hcy hL00;go_wp2_with fail;go_roundw
    case rel => exact ⟨k + 1,b,by simp,h,zu HB1,zu HOW2,zu HNL,zu HW2⟩
    case measure => simp only [intOf];omega
  ·have k1 : ¬ (k : Int) < (n : Int):=by omega
   have kz : decide ((k : Int) < (n : Int)) = false:=df k1;have hk : n = k:=by omega
   subst hk;clear hfb;go_wp2_with fail;go_ret
   first
   | exact ⟨⟨_,b,rfl,zu HB,zu HOW⟩,zu HW⟩
   | exact ⟨⟨_,rfl,b,zu HB,zu HOW⟩,zu HW⟩
theorem absM_any (x : Int) (w : World) (h1 : -10000 ≤ x) (h2 : x ≤ 10000) : Calls Tryz.prog 69 #[.int .i64 x] w fun e w' => e = .returned (.int .i64 (absI x)) ∧ w' = w:=by
 have w1 : IntKind.i64.wrap (-x) = -x:=wrap_i (by omega) (by omega);unfold absI
 by_cases h : x < 0
 ·rw [if_pos h]
  have d : decide (x < 0) = true:=dt h;go_enter Tryz.func69,Tryz.ntmps69;go_wp2_with fail;go_ret;exact ⟨rfl,rfl⟩
 ·rw [if_neg h]
  have d : decide (x < 0) = false:=df h;go_enter Tryz.func69,Tryz.ntmps69;go_wp2_with fail;go_ret;exact ⟨rfl,rfl⟩
theorem absI_le {x m : Int} (h1 : -m ≤ x) (h2 : x ≤ m) : 0 ≤ absI x ∧ absI x ≤ m:=by unfold absI;split <;> omega
theorem touch_any (a b : Bx) (w : World) (ha : bxS 1000 a) (hb : bxS 1000 b) : Calls Tryz.prog 146 #[bxv a,bxv b] w fun e w' => e = .returned (.bool (tch a b)) ∧ Below w.heap.size w w':=by
 obtain ⟨a1,a2,a3,a4,a5,a6⟩:=ha;obtain ⟨b1,b2,b3,b4,b5,b6⟩:=hb;have w1 : IntKind.i64.wrap (a.x0 - b.x0) = a.x0 - b.x0:=wrap_i (by omega) (by omega);have w2 : IntKind.i64.wrap (a.y0 - b.y0) = a.y0 - b.y0:=wrap_i (by omega) (by omega);have w3 : IntKind.i64.wrap (a.z0 - b.z0) = a.z0 - b.z0:=wrap_i (by omega) (by omega);have A1:=hide (fun W => absM_any (a.x0 - b.x0) W (by omega) (by omega));have A2:=hide (fun W => absM_any (a.y0 - b.y0) W (by omega) (by omega));have A3:=hide (fun W => absM_any (a.z0 - b.z0) W (by omega) (by omega))
 obtain ⟨p1,p2⟩:=absI_le (x:=a.x0 - b.x0) (m:=2000) (by omega) (by omega);obtain ⟨q1,q2⟩:=absI_le (x:=a.y0 - b.y0) (m:=2000) (by omega) (by omega);obtain ⟨r1,r2⟩:=absI_le (x:=a.z0 - b.z0) (m:=2000) (by omega) (by omega);unfold tch bxv;generalize absI (a.x0 - b.x0) = p at *;generalize absI (a.y0 - b.y0) = q at *;generalize absI (a.z0 - b.z0) = r at *;have w4 : IntKind.i64.wrap (p + q) = p + q:=wrap_i (by omega) (by omega);have w5 : IntKind.i64.wrap (p + q + r) = p + q + r:=wrap_i (by omega) (by omega);clear a1 a2 a3 a4 a5 a6 b1 b2 b3 b4 b5 b6 p1 p2 q1 q2 r1 r2
 generalize a.x0 = ax0 at *;generalize a.y0 = ay0 at *;generalize a.z0 = az0 at *;generalize a.x1 = ax1 at *;generalize a.y1 = ay1 at *;generalize a.z1 = az1 at *;generalize b.x0 = bx0' at *;generalize b.y0 = by0 at *;generalize b.z0 = bz0 at *;generalize b.x1 = bx1 at *;generalize b.y1 = by1 at *;generalize b.z1 = bz1 at *;clear a b;go_enter Tryz.func146,Tryz.ntmps146;go_wp2_with fail;refine (zu A1 _).mono ?_;rintro e W1 ⟨rfl,rfl⟩;go_wp2_with fail;refine (zu A2 _).mono ?_;rintro e W1 ⟨rfl,rfl⟩;go_wp2_with fail;refine (zu A3 _).mono ?_;rintro e W1 ⟨rfl,rfl⟩;clear A1 A2 A3 w1 w2 w3;go_wp2
 all_goals
  go_ret;refine ⟨ret_bool ?_,ba (ba (bfl _ _) _) _⟩
  first | (simp [*];done) | (simp_all;done) | (rw [Bool.eq_iff_iff];simp only [Bool.and_eq_true,Bool.or_eq_true,Bool.not_eq_true',Bool.or_eq_false_iff,Bool.and_eq_false_iff,decide_eq_true_eq,decide_eq_false_iff_not,beq_iff_eq,beq_eq_false_iff_ne,ne_eq,bne_iff_ne,bne_eq_false_iff_eq,Bool.false_eq_true,false_iff] at *;omega)
theorem around_any (a b : Bx) (w : World) : Calls Tryz.prog 114 #[bxv a,bxv b] w fun e w' => e = .returned (bxv (arn a b)) ∧ Below w.heap.size w w':=by
 unfold arn bxv;simp only;generalize a.x0 = ax0 at *;generalize a.y0 = ay0 at *;generalize a.z0 = az0 at *;generalize a.x1 = ax1 at *;generalize a.y1 = ay1 at *;generalize a.z1 = az1 at *;generalize b.x0 = bx0' at *;generalize b.y0 = by0 at *;generalize b.z0 = bz0 at *;generalize b.x1 = bx1 at *;generalize b.y1 = by1 at *;generalize b.z1 = bz1 at *;clear a b;go_enter Tryz.func114,Tryz.ntmps114;go_wp2_with fail
 refine bodyPost_ret (v:=.agg #[.int .i64 (min ax0 bx0'),.int .i64 (min ay0 by0),.int .i64 (min az0 bz0),.int .i64 (max ax1 bx1),.int .i64 (max ay1 by1),.int .i64 (max az1 bz1)]) (by simp [results,Tryz.results114,go_sem];done) rfl ?_;refine ⟨rfl,?_⟩
 repeat (first | exact bfl _ _ | refine Below.setCell ?_ (Nat.le_refl _) _ | refine Below.setCell ?_ (by simp) _ | refine ba ?_ _)
theorem filP_same {b : Bx} {v : Bool} {n : Nat} {c : Cs} {K : Nat} (h : inB b K = true) (e : (filP b v n c K).full K = v) : filP b v n c (K + 1) = filP b v n c K:=by
 obtain ⟨h1,h2,_⟩:=filP_in v n c h
 have e1 : (filP b v n c (K + 1)).full = (filP b v n c K).full:=by
  rw [h1];funext j;split
  ·rename_i q;subst q;exact e.symm
  ·rfl
 have e2 : (filP b v n c (K + 1)).by_ = (filP b v n c K).by_:=by
  rw [h2];funext j;split
  ·rename_i q;subst q;first | rfl | rw [if_pos e] | simp [e]
  ·rfl
 show Cs.mk (filP b v n c (K + 1)).full (filP b v n c (K + 1)).by_ = Cs.mk (filP b v n c K).full (filP b v n c K).by_
 rw [e1,e2]
theorem filP_put {b : Bx} {v : Bool} {n : Nat} {c : Cs} {K : Nat} (h : inB b K = true) (e : (filP b v n c K).full K ≠ v) : (filP b v n c (K + 1)).full = (fun k => if k = K then v else (filP b v n c K).full k) ∧ (filP b v n c (K + 1)).by_ = (fun k => if k = K then n else (filP b v n c K).by_ k):=by
 obtain ⟨h1,h2,_⟩:=filP_in v n c h;refine ⟨h1,?_⟩;rw [h2]
 funext j
 split
 ·first | rfl | rw [if_neg e] | simp [e]
 ·rfl
theorem fill_any (g gf gb : Nat) (l d o : Value) (cf cb : Nat) (b : Bx) (v : Bool) (n : Nat) (c : Cs) (w : World) (hg : vb w g 97 [l,d,.slice (some ⟨gf,0,none⟩) 13824 cf,.slice (some ⟨gb,0,none⟩) 13824 cb,o])
  (hc : CsM w gf gb c) (h1 : g ≠ gf) (h2 : g ≠ gb) (h3 : gf ≠ gb) (hb : bxOk b = true) :
  Calls Tryz.prog 111 #[.pointer (some ⟨g,0,none⟩),bxv b,.bool v,.int .i64 (n : Int)] w fun e w' => e = .returned (.tuple #[]) ∧ CsM w' gf gb (fil b v n c) ∧ Tw gf gb w w':=by
 obtain ⟨⟨hx0,hx1,hx2⟩,⟨hy0,hy1,hy2⟩,⟨hz0,hz1,hz2⟩⟩:=bxOk_iff.1 hb
 obtain ⟨x0,ex0⟩ : ∃ q : Nat,b.x0 = (q : Int):=⟨b.x0.toNat,by omega⟩
 obtain ⟨x1,ex1⟩ : ∃ q : Nat,b.x1 = (q : Int):=⟨b.x1.toNat,by omega⟩
 obtain ⟨y0,ey0⟩ : ∃ q : Nat,b.y0 = (q : Int):=⟨b.y0.toNat,by omega⟩
 obtain ⟨y1,ey1⟩ : ∃ q : Nat,b.y1 = (q : Int):=⟨b.y1.toNat,by omega⟩
 obtain ⟨z0,ez0⟩ : ∃ q : Nat,b.z0 = (q : Int):=⟨b.z0.toNat,by omega⟩
 obtain ⟨z1,ez1⟩ : ∃ q : Nat,b.z1 = (q : Int):=⟨b.z1.toNat,by omega⟩
 unfold bxv;rw [ex0,ex1,ey0,ey1,ez0,ez1];have HB : Hid (∀ x y z : Nat,x0 ≤ x → x < x1 → y0 ≤ y → y < y1 → z0 ≤ z → z < z1 → inB b ((z * 24 + y) * 24 + x) = true):=hide (fun x y z a1 a2 a3 a4 a5 a6 => inB_at ⟨by omega,by omega⟩ ⟨by omega,by omega⟩ ⟨by omega,by omega⟩ (by omega) (by omega));have HRW:=hide (fun y z (hy : y < 24) => filP_row v n c (y:=y) (z:=z) ex1 (by omega) hy);have HRL:=hide (fun y z => filP_rowL v n c (y:=y) (z:=z) ex0 (by omega));have HLY:=hide (fun z => filP_lay v n c (z:=z) ey1 (by omega))
 have HLL:=hide (fun z => filP_layL v n c (z:=z) ey0 (by omega));have HTP:=hide (filP_top v n c ez1 (by omega));have HBT:=hide (filP_bot v n c ez0);rw [ex0,ex1] at hx1;rw [ey0,ey1] at hy1;rw [ez0,ez1] at hz1;rw [ex1] at hx2;rw [ey1] at hy2;rw [ez1] at hz2;have HIN:=hide (fun K (h : inB b K = true) => And.intro (fun e => filP_same (v:=v) (n:=n) (c:=c) h e) (fun e => filP_put (v:=v) (n:=n) (c:=c) h e));clear hb ex0 ex1 ey0 ey1 ez0 ez1 hx0 hy0 hz0;have HG:=hide hg;have HC:=hide hc;have H1:=hide h1;have H2:=hide h2;have H3:=hide h3
 have HNB : Hid (∀ W,Tw gf gb w W → vb W g 97 [l,d,.slice (some ⟨gf,0,none⟩) 13824 cf,.slice (some ⟨gb,0,none⟩) 13824 cb,o]):=hide (fun W hW => hW.vb (zu HG) (zu H1) (zu H2));have hgl:=hg.lt;have hgfl:=hc.f.lt;have hgbl:=hc.b.lt;have q1 : w.heap.size ≠ gf:=by omega
 have q2 : w.heap.size ≠ gb:=by omega
 have HQ:=hide (And.intro q1 q2);have HV0 : Hid (vb (w.alloc (.cells #[.int .i64 (x0 : Int),.int .i64 (y0 : Int),.int .i64 (z0 : Int),.int .i64 (x1 : Int),.int .i64 (y1 : Int),.int .i64 (z1 : Int)] 41)) w.heap.size 41 [.int .i64 (x0 : Int),.int .i64 (y0 : Int),.int .i64 (z0 : Int),.int .i64 (x1 : Int),.int .i64 (y1 : Int),.int .i64 (z1 : Int)]):=hide (vb_new w 41 _ _ rfl)
 have HT0 : Hid (Tw gf gb w (w.alloc (.cells #[.int .i64 (x0 : Int),.int .i64 (y0 : Int),.int .i64 (z0 : Int),.int .i64 (x1 : Int),.int .i64 (y1 : Int),.int .i64 (z1 : Int)] 41))):=hide (Tw.of_bel (ba (bfl _ _) _));have HC0 : Hid (CsM (w.alloc (.cells #[.int .i64 (x0 : Int),.int .i64 (y0 : Int),.int .i64 (z0 : Int),.int .i64 (x1 : Int),.int .i64 (y1 : Int),.int .i64 (z1 : Int)] 41)) gf gb (filP b v n c (z0 * 576))):=hide (by rw [← zu HBT];exact hc.bel (ba (bfl _ _) _));have k2:=(zu HV0).cell (m:=2) rfl;clear hg hc h1 h2 h3 hgl hgfl hgbl q1 q2
 go_enter Tryz.func111,Tryz.ntmps111;go_wp2_with fail;clear k2
 go_loopw [8] (fun s W => ∃ z : Nat,s = .int .i64 (z : Int) ∧ z0 ≤ z ∧ z ≤ z1 ∧ CsM W gf gb (filP b v n c (z * 576)) ∧ Tw gf gb w W ∧ vb W w.heap.size 41 [.int .i64 (x0 : Int),.int .i64 (y0 : Int),.int .i64 (z0 : Int),.int .i64 (x1 : Int),.int .i64 (y1 : Int),.int .i64 (z1 : Int)]) (fun s _ => z1 - (intOf s).toNat)
 case atStart => exact ⟨z0,rfl,Nat.le_refl _,by omega,zu HC0,zu HT0,zu HV0⟩
 case round =>
  obtain ⟨z,rfl,hz3,hz4,hcs,htw,hvb⟩:=hrel;have HCZ:=hide hcs;have HTZ:=hide htw;have HVZ:=hide hvb;have k1:=hvb.cell (m:=1) rfl;have k5:=hvb.cell (m:=5) rfl;clear hcs htw hvb
  by_cases h : z < z1
  ·have iz : decide ((z : Int) < (z1 : Int)) = true:=dt (by omega)
   have i1 : (z : Int) < (z1 : Int):=by omega
   have wz : IntKind.i64.wrap ((z : Int) + 1) = ((z + 1 : Nat) : Int):=(wrap_i (by omega) (by omega)).trans (by simp);have HCY:=hide (zu HCZ);rw [zu HLL z] at HCY;go_wp2_with fail;clear k1 k5
   go_loopw [9] (fun s W => ∃ y : Nat,s = .int .i64 (y : Int) ∧ y0 ≤ y ∧ y ≤ y1 ∧ CsM W gf gb (filP b v n c ((z * 24 + y) * 24)) ∧ Tw gf gb w W ∧ vb W w.heap.size 41 [.int .i64 (x0 : Int),.int .i64 (y0 : Int),.int .i64 (z0 : Int),.int .i64 (x1 : Int),.int .i64 (y1 : Int),.int .i64 (z1 : Int)]) (fun s _ => y1 - (intOf s).toNat)
   case atStart => exact ⟨y0,rfl,Nat.le_refl _,by omega,zu HCY,zu HTZ,zu HVZ⟩
   case round =>
    clear HCY HCZ HTZ HVZ;obtain ⟨y,rfl,hy3,hy4,hcs,htw,hvb⟩:=hrel;have HCY:=hide hcs;have HTY:=hide htw;have HVY:=hide hvb;have k0:=hvb.cell (m:=0) rfl;have k4:=hvb.cell (m:=4) rfl;clear hcs htw hvb
    by_cases h' : y < y1
    ·have jz : decide ((y : Int) < (y1 : Int)) = true:=dt (by omega)
     have j1 : (y : Int) < (y1 : Int):=by omega
     have wy : IntKind.i64.wrap ((y : Int) + 1) = ((y + 1 : Nat) : Int):=(wrap_i (by omega) (by omega)).trans (by simp);have HCX:=hide (zu HCY);rw [zu HRL y z] at HCX;go_wp2_with fail;clear k0 k4
     go_loopw [10] (fun s W => ∃ x : Nat,s = .int .i64 (x : Int) ∧ x0 ≤ x ∧ x ≤ x1 ∧ CsM W gf gb (filP b v n c ((z * 24 + y) * 24 + x)) ∧ Tw gf gb w W ∧ vb W w.heap.size 41 [.int .i64 (x0 : Int),.int .i64 (y0 : Int),.int .i64 (z0 : Int),.int .i64 (x1 : Int),.int .i64 (y1 : Int),.int .i64 (z1 : Int)]) (fun s _ => x1 - (intOf s).toNat)
     case atStart => exact ⟨x0,rfl,Nat.le_refl _,by omega,zu HCX,zu HTY,zu HVY⟩
     case round =>
      clear HCX HCY HTY HVY;obtain ⟨x,rfl,hx3,hx4,hcs,htw,hvb⟩:=hrel;have HCX:=hide hcs;have HTX:=hide htw;have HVX:=hide hvb;have k3:=hvb.cell (m:=3) rfl
      by_cases h'' : x < x1
      ·have lz : decide ((x : Int) < (x1 : Int)) = true:=dt (by omega)
       have l1 : (x : Int) < (x1 : Int):=by omega
       have wx : IntKind.i64.wrap ((x : Int) + 1) = ((x + 1 : Nat) : Int):=(wrap_i (by omega) (by omega)).trans (by simp);have hin:=zu HB x y z hx3 h'' hy3 h' hz3 h;have HST:=hide (zu HIN _ hin);have HAT:=hide (fun W => mAt_any x y z W (by omega) (by omega) (by omega));have hK : at3 x y z < 13824:=at3_lt (by omega) (by omega) (by omega);have eK : (z * 24 + y) * 24 + x = at3 x y z:=rfl;have eK1 : (z * 24 + y) * 24 + (x + 1) = at3 x y z + 1:=rfl;rw [eK] at HST HCX;have HE1:=hide eK1;clear hin eK1 hcs htw hvb;generalize at3 x y z = K at *
       have kg2:=(zu HNB _ (zu HTX)).cell (m:=2) rfl;have kg3:=(zu HNB _ (zu HTX)).cell (m:=3) rfl;have cf:=(zu HCX).cf hK;have cb:=(zu HCX).cb hK;have ff:=(zu HCX).f.frozen K;have fb:=(zu HCX).b.frozen K;have K0 : (0 : Int) ≤ (K : Int):=Int.natCast_nonneg _;have K1 : (K : Int) < 13824:=by omega
       have kz : decide ((K : Int) < 13824) = true:=dt K1
       have hp : ∃ d,d = filP b v n c K:=⟨_,rfl⟩
       obtain ⟨dK,hdK⟩:=hp;rw [← hdK] at HST HCX cf cb;clear hdK;generalize hfk : dK.full K = fk at *;generalize hyk : dK.by_ K = yk at *;have HFK:=hide hfk;clear hfk hyk
       by_cases hv : fk = v
       ·have d1 : (fk != v) = false:=by simp [hv]
        have d2 : (!(fk == v)) = false:=by simp [hv]
        have HCN : Hid (CsM wr gf gb (filP b v n c (K + 1))):=hide (by rw [(zu HST).1 hv];exact zu HCX);clear hv;go_wp2_with fail;refine (zu HAT _).mono ?_;rintro e W4 ⟨rfl,rfl⟩;go_wp2_with fail;go_roundw
        case rel => exact ⟨x + 1,by simp,by omega,h'',by rw [zu HE1];exact zu HCN,zu HTX,zu HVX⟩
        case measure => simp only [intOf];omega
       ·have d1 : (fk != v) = true:=by simp [hv]
        have d2 : (!(fk == v)) = true:=by simp [hv]
        have hst:=(zu HST).2 hv;have HCN:=hide (CsM.put (zu HCX) (zu H3) K v n hst.1 hst.2);have HTN:=hide (Tw.set (Tw.set (zu HTX) (.inl rfl) K (.bool v)) (.inr rfl) K (.int .i64 (n : Int)));have HVN:=hide (((zu HVX).ne (g':=gf) (o:=K) (x:=.bool v) (zu HQ).1).ne (g':=gb) (o:=K) (x:=.int .i64 (n : Int)) (zu HQ).2);have kg3':=((zu HNB _ (Tw.set (zu HTX) (.inl rfl) K (.bool v)))).cell (m:=3) rfl;have cb':=((zu HCX).b.ne (g':=gf) (o:=K) (x:=.bool v) (fun e => zu H3 e.symm)).cell (fnL_at _ hK)
        have fb':=((zu HCX).b.ne (g':=gf) (o:=K) (x:=.bool v) (fun e => zu H3 e.symm)).frozen K;clear hv hst;go_wp2_with fail;refine (zu HAT _).mono ?_;rintro e W4 ⟨rfl,rfl⟩;go_wp2_with fail;go_roundw
        case rel => exact ⟨x + 1,by simp,by omega,h'',by rw [zu HE1];exact zu HCN,zu HTN,zu HVN⟩
        case measure => simp only [intOf];omega
      ·have lz : decide ((x : Int) < (x1 : Int)) = false:=df (by omega)
       have l1 : ¬ (x : Int) < (x1 : Int):=by omega
       obtain rfl : x = x1:=by omega
       have HCE:=hide hcs;rw [zu HRW y z (by omega)] at HCE;clear hcs htw hvb;go_wp2_with fail;go_roundw
       case rel => exact ⟨y + 1,by simp,by omega,h',zu HCE,zu HTX,zu HVX⟩
       case measure => simp only [intOf];omega
    ·have jz : decide ((y : Int) < (y1 : Int)) = false:=df (by omega)
     have j1 : ¬ (y : Int) < (y1 : Int):=by omega
     obtain rfl : y = y1:=by omega
     have HCE:=hide (zu HCY);rw [zu HLY z] at HCE;go_wp2_with fail;go_roundw
     case rel => exact ⟨z + 1,by simp,by omega,h,zu HCE,zu HTY,zu HVY⟩
     case measure => simp only [intOf];omega
  ·have iz : decide ((z : Int) < (z1 : Int)) = false:=df (by omega)
   have i1 : ¬ (z : Int) < (z1 : Int):=by omega
   obtain rfl : z = z1:=by omega
   have HCE:=hide (zu HCZ);rw [zu HTP] at HCE;go_wp2_with fail
   go_end0
   exact ⟨rfl,zu HCE,zu HTZ⟩
theorem step_let (s : ByteArray) (k : Nat) (h : letN s k ≠ 0) : stepN s k = letN s k:=by simp [stepN,h]
theorem step_dig (s : ByteArray) (k : Nat) (hk : k < s.size) (h : letN s k = 0) (h0 : 0 < k) (h1 : 48 ≤ (s[k]'hk).toNat) (h2 : (s[k]'hk).toNat ≤ 57) : stepN s k = 1:=by
 have e : isDigit (at' s k) = true:=dt (by rw [get_eq s k hk];exact ⟨h1,h2⟩);simp [stepN,h,h0,e]
theorem step_no (s : ByteArray) (k : Nat) (hk : k < s.size) (h : letN s k = 0) (h0 : k = 0 ∨ (s[k]'hk).toNat < 48 ∨ 57 < (s[k]'hk).toNat) : stepN s k = 0:=by
 rcases h0 with h0 | h0
 ·subst h0;simp [stepN,h]
 ·have e : isDigit (at' s k) = false:=df (by rw [get_eq s k hk];omega)
  simp [stepN,h,e]
def On (s : ByteArray) (E k : Nat) : Prop:=∃ f,s.size ≤ k + f ∧ endOf s f k = E
theorem on_start (s : ByteArray) : On s (endOf s s.size 0) 0:=⟨s.size,by omega,rfl⟩
theorem on_step {s : ByteArray} {E k : Nat} (h : On s E k) (hk : k < s.size) (hs : stepN s k ≠ 0) : On s E (k + stepN s k):=by
 obtain ⟨f,hf,he⟩:=h;obtain ⟨e1,e2⟩:=endOf_step s f k hk hf hs;exact ⟨f - 1,e2,by rw [← e1];exact he⟩
theorem on_stop {s : ByteArray} {E k : Nat} (h : On s E k) (hs : stepN s k = 0) : E = k:=by
 obtain ⟨f,hf,he⟩:=h;rw [← he,endOf_stop s f k hs]
theorem on_end {s : ByteArray} {E k : Nat} (h : On s E k) (hs : ¬ k < s.size) : E = k:=by
 obtain ⟨f,hf,he⟩:=h;rw [← he,endOf_ge s f k hs]
theorem word_any (s : ByteArray) (w : World) (hs : s.size ≤ maxLen) :
  Calls Tryz.prog 170 #[.string s,.int .i64 0] w fun e w' => e = .returned (.int .i64 (endOf s s.size 0 : Int)) ∧ w' = w:=by
 have hs0:=hide hs;unfold maxLen at hs;generalize hE : endOf s s.size 0 = E;have HE : Hid (On s E 0):=by rw [← hE];exact on_start s
 clear hE;go_enter Tryz.func170,Tryz.ntmps170;go_wp2
 go_loop [5] (fun i => ∃ k : Nat,i = .int .i64 (k : Int) ∧ k ≤ s.size ∧ On s E k) (fun i => s.size - (intOf i).toNat)
 case atStart => exact ⟨0,rfl,by omega,zu HE⟩
 case round =>
  obtain ⟨k,rfl,hk,hon⟩:=hrel;have HON:=hide hon;clear hon HE
  by_cases hlt : k < s.size
  ·have hle:=stepN_le s k hlt
   have hc : (s[k]'hlt).toNat < 256:=UInt8.toNat_lt _;have HL:=hide (fun W => let_any s k W (zu hs0) hlt);have hll:=letN_le s k hlt
   by_cases h0 : letN s k = 0
   ·by_cases hd : 0 < k ∧ 48 ≤ (s[k]'hlt).toNat ∧ (s[k]'hlt).toNat ≤ 57
    ·obtain ⟨d0,d1,d2⟩:=hd
     have hst:=step_dig s k hlt h0 d0 d1 d2;have HN : Hid (On s E (k + 1)):=by have:=on_step (zu HON) hlt (by omega);rw [hst] at this;exact this
     rw [h0] at HL;clear h0 hst hle hll HON;have p1 : decide ((0 : Int) < (k : Int)) = true:=dt (by omega);have p2 : decide ((48 : Int) ≤ ((s[k]'hlt).toNat : Int)) = true:=dt (by omega);have p3 : decide (((s[k]'hlt).toNat : Int) ≤ 57) = true:=dt (by omega);go_wp2_with fail;refine (zu HL _).mono ?_;rintro e w1 ⟨rfl,rfl⟩;go_wp2
     go_round
     case rel => exact ⟨k + 1,by go_num,by omega,zu HN⟩
     case measure => simp [intOf];omega
    ·have hst:=step_no s k hlt h0 (by omega)
     have hEk:=on_stop (zu HON) hst;have HEK:=hide hEk;rw [h0] at HL;clear h0 hst hle hll hEk HON
     by_cases d0 : 0 < k
     ·have p1 : decide ((0 : Int) < (k : Int)) = true:=dt (by omega)
      by_cases d1 : 48 ≤ (s[k]'hlt).toNat
      ·have p2 : decide ((48 : Int) ≤ ((s[k]'hlt).toNat : Int)) = true:=dt (by omega)
       have p3 : decide (((s[k]'hlt).toNat : Int) ≤ 57) = false:=df (by omega);go_wp2_with fail;refine (zu HL _).mono ?_;rintro e w1 ⟨rfl,rfl⟩;go_wp2;go_ret;exact ⟨ret_int (by rw [zu HEK]),rfl⟩
      ·have p2 : decide ((48 : Int) ≤ ((s[k]'hlt).toNat : Int)) = false:=df (by omega)
       go_wp2_with fail;refine (zu HL _).mono ?_;rintro e w1 ⟨rfl,rfl⟩;go_wp2;go_ret;exact ⟨ret_int (by rw [zu HEK]),rfl⟩
     ·have p1 : decide ((0 : Int) < (k : Int)) = false:=df (by omega)
      go_wp2_with fail;refine (zu HL _).mono ?_;rintro e w1 ⟨rfl,rfl⟩;go_wp2;go_ret;exact ⟨ret_int (by rw [zu HEK]),rfl⟩
   ·have hst:=step_let s k h0
    have HN : Hid (On s E (k + letN s k)):=by have:=on_step (zu HON) hlt (by omega);rw [hst] at this;exact this
    clear hst hle HON;generalize letN s k = L at *;have p0 : ((L : Int) == 0) = false:=by rw [beq_eq_false_iff_ne];omega
    go_wp2_with fail;refine (zu HL _).mono ?_;rintro e w1 ⟨rfl,rfl⟩;go_wp2
    go_round
    case rel => exact ⟨k + L,by go_num,by omega,zu HN⟩
    case measure => simp [intOf];omega
  ·have HEK:=hide (on_end (zu HON) hlt)
   go_wp2;go_ret;exact ⟨ret_int (by rw [zu HEK]),rfl⟩
open Go.ChangeMaps (open_string shut_string)
theorem specName_any (s : ByteArray) (w : World) (hs : s.size ≤ maxLen) :
  Calls Tryz.prog 142 #[.string s] w fun e w' => e = .returned (.bool (nameB s)) ∧ w' = w:=by
 have HW:=hide (fun W => word_any s W hs);have hB : nameB s = decide (0 < s.size ∧ s.size ≤ 40 ∧ endOf s s.size 0 = s.size):=rfl;rw [hB];clear hB;generalize endOf s s.size 0 = E at *;unfold maxLen at hs
 by_cases h0 : 0 < s.size
 ·have p0 : decide ((0 : Int) < (s.size : Int)) = true:=dt (by omega)
  by_cases h1 : s.size ≤ 40
  ·have p1 : decide ((s.size : Int) ≤ 40) = true:=dt (by omega)
   rw [show decide (0 < s.size ∧ s.size ≤ 40 ∧ E = s.size) = ((E : Int) == (s.size : Int)) from by rw [Bool.eq_iff_iff];simp;omega];go_enter Tryz.func142,Tryz.ntmps142;go_wp2_with fail;refine (zu HW _).mono ?_;rintro e w1 ⟨rfl,rfl⟩;go_wp2
   all_goals (go_ret;exact ⟨ret_bool (by first | rfl | simp_all),rfl⟩)
  ·have p1 : decide ((s.size : Int) ≤ 40) = false:=df (by omega)
   rw [show decide (0 < s.size ∧ s.size ≤ 40 ∧ E = s.size) = false from df (by omega)];go_enter Tryz.func142,Tryz.ntmps142;go_wp2;go_ret;exact ⟨rfl,rfl⟩
 ·have p0 : decide ((0 : Int) < (s.size : Int)) = false:=df (by omega)
  rw [show decide (0 < s.size ∧ s.size ≤ 40 ∧ E = s.size) = false from df (by omega)];go_enter Tryz.func142,Tryz.ntmps142;go_wp2;go_ret;exact ⟨rfl,rfl⟩
theorem width_pos (s : ByteArray) (pos : Nat) (h : pos < s.size) : 1 ≤ (Utf8.decode s pos).2:=by
 by_cases ha : (s[pos]'h).toNat < 128
 ·rw [decode_ascii s pos h ha]
  exact Nat.le_refl _
 ·exact (decode_high s pos h (by omega)).2
theorem implName_in (s : ByteArray) (w : World) (hs : s.size ≤ 40) (h0 : 0 < s.size) :
  Calls Tryz.prog 171 #[.string s] w fun e w' => e = .returned (.bool (endOf s s.size 0 == s.size)) ∧ Below w.heap.size w w':=by
 generalize hE : endOf s s.size 0 = E;have HE : Hid (On s E 0):=by rw [← hE];exact on_start s
 clear hE;have p0 : ((s.size : Int) == 0) = false:=by rw [beq_eq_false_iff_ne];omega
 have p1 : decide ((40 : Int) < (s.size : Int)) = false:=df (by omega);go_enter Tryz.func171,Tryz.ntmps171;go_wp2
 go_loopw [] (fun w' => ∃ pos : Nat,w' = w.iter s pos ∧ pos ≤ s.size ∧ On s E pos) (fun w' => s.size - w'.iterPos w.heap.size)
 case atStart => exact ⟨0,rfl,by omega,zu HE⟩
 case round =>
  obtain ⟨pos,rfl,hle,hon⟩:=hrel;have HON:=hide hon;clear hon HE
  by_cases hp : pos < s.size
  ·have hnx : ∀ ty,(Instr.next (.pointer (some ⟨w.heap.size,0,none⟩)) true ty).run Tryz.prog (w.iter s pos) = _:=fun ty => run_next_any w s pos ty hp
   have hwd:=width_pos s pos hp;have hdl:=decode_le s pos;have HF:=hide (fits_step s pos);have hsl:=stepN_le s pos hp;unfold SameD at HF;generalize (Utf8.decode s pos).1 = r at *;generalize (Utf8.decode s pos).2 = wd at *
   by_cases hr : runeB r = true
   ·have hst : stepN s pos = wd:=(zu HF).1 (by simp [fitsB,hr])
    have HN : Hid (On s E (pos + wd)):=by have:=on_step (zu HON) hp (by omega);rw [hst] at this;exact this
    rw [hst] at hsl;have HL : Hid (∀ W,Calls Tryz.prog 209 #[.int .i32 (r : Int)] W fun e w' => e = .returned (.bool true) ∧ w' = W):=by rw [← hr];exact fun W => letter_any r W hdl
    clear hst HON HF hr;go_wp2_with fail;refine (zu HL _).mono ?_;rintro e w1 ⟨rfl,rfl⟩;go_wp2;go_roundw
    case rel => exact ⟨pos + wd,rfl,hsl,zu HN⟩
    case measure => simp;omega
   have hr : runeB r = false:=by simpa using hr
   have HL : Hid (∀ W,Calls Tryz.prog 209 #[.int .i32 (r : Int)] W fun e w' => e = .returned (.bool false) ∧ w' = W):=by rw [← hr];exact fun W => letter_any r W hdl
   by_cases hz : pos = 0
   ·have hst : stepN s pos = 0:=(zu HF).2 (by simp [fitsB,hr,hz])
    have HEK : Hid ((E == s.size) = false):=by
     rw [on_stop (zu HON) hst];exact hide (by rw [beq_eq_false_iff_ne];omega)
    have q0 : ((pos : Int) == 0) = true:=by simp [hz]
    clear hst HON HF hr hsl hz;go_wp2_with fail;refine (zu HL _).mono ?_;rintro e w1 ⟨rfl,rfl⟩;go_wp2;go_ret;exact ⟨ret_bool (by rw [zu HEK]),(bfl _ _).alloc (Nat.le_refl _) _⟩
   have q0 : ((pos : Int) == 0) = false:=by rw [beq_eq_false_iff_ne];omega
   by_cases hdg : isDigit r = true
   ·have hst : stepN s pos = wd:=(zu HF).1 (by simp [fitsB,hdg];omega)
    have HN : Hid (On s E (pos + wd)):=by have:=on_step (zu HON) hp (by omega);rw [hst] at this;exact this
    rw [hst] at hsl;have HD : Hid (∀ W,Calls Tryz.prog 210 #[.int .i32 (r : Int)] W fun e w' => e = .returned (.bool true) ∧ w' = W):=by rw [← hdg];exact fun W => digit_any r W hdl
    clear hst HON HF hr hdg;go_wp2_with fail;refine (zu HL _).mono ?_;rintro e w1 ⟨rfl,rfl⟩;go_wp2_with fail;refine (zu HD _).mono ?_;rintro e w1 ⟨rfl,rfl⟩;go_wp2;go_roundw
    case rel => exact ⟨pos + wd,rfl,hsl,zu HN⟩
    case measure => simp;omega
   ·have hdg : isDigit r = false:=by simpa using hdg
    have hst : stepN s pos = 0:=(zu HF).2 (by simp [fitsB,hr,hdg])
    have HEK : Hid ((E == s.size) = false):=by
     rw [on_stop (zu HON) hst];exact hide (by rw [beq_eq_false_iff_ne];omega)
    have HD : Hid (∀ W,Calls Tryz.prog 210 #[.int .i32 (r : Int)] W fun e w' => e = .returned (.bool false) ∧ w' = W):=by rw [← hdg];exact fun W => digit_any r W hdl
    clear hst HON HF hr hdg hsl;go_wp2_with fail;refine (zu HL _).mono ?_;rintro e w1 ⟨rfl,rfl⟩;go_wp2_with fail;refine (zu HD _).mono ?_;rintro e w1 ⟨rfl,rfl⟩;go_wp2;go_ret;exact ⟨ret_bool (by rw [zu HEK]),(bfl _ _).alloc (Nat.le_refl _) _⟩
  ·have hnx : ∀ ty,(Instr.next (.pointer (some ⟨w.heap.size,0,none⟩)) true ty).run Tryz.prog (w.iter s pos) = _:=fun ty => run_next_end w s pos ty hp
   have HEK : Hid ((E == s.size) = true):=by
    rw [on_end (zu HON) hp];exact hide (by rw [beq_iff_eq];omega)
   clear HON;go_wp2;go_ret;exact ⟨ret_bool (by rw [zu HEK]),(bfl _ _).alloc (Nat.le_refl _) _⟩
theorem implName_out (s : ByteArray) (w : World) (hs : s.size ≤ maxLen) (h : s.size = 0 ∨ 40 < s.size) :
  Calls Tryz.prog 171 #[.string s] w fun e w' => e = .returned (.bool false) ∧ Below w.heap.size w w':=by
 unfold maxLen at hs
 rcases h with h | h
 ·have p0 : ((s.size : Int) == 0) = true:=by simp [h]
  clear h;go_enter Tryz.func171,Tryz.ntmps171;go_wp2;go_ret;exact ⟨rfl,bfl _ _⟩
 ·have p0 : ((s.size : Int) == 0) = false:=by rw [beq_eq_false_iff_ne];omega
  have p1 : decide ((40 : Int) < (s.size : Int)) = true:=dt (by omega);go_enter Tryz.func171,Tryz.ntmps171;go_wp2;go_ret;exact ⟨rfl,bfl _ _⟩
theorem implName_any (s : ByteArray) (w : World) (hs : s.size ≤ maxLen) :
  Calls Tryz.prog 171 #[.string s] w fun e w' => e = .returned (.bool (nameB s)) ∧ Below w.heap.size w w':=by
 by_cases h : 0 < s.size ∧ s.size ≤ 40
 ·rw [show nameB s = (endOf s s.size 0 == s.size) from by unfold nameB;rw [Bool.eq_iff_iff];simp;omega]
  exact implName_in s w h.2 h.1
 ·rw [show nameB s = false from df (by omega)]
  exact implName_out s w hs (by omega)
end Go.Proofs.YtkiplmabjeadgaaGreat
