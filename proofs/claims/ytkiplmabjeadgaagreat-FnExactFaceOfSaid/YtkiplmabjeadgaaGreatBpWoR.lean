/- What FaceOf answers; the faces that are told. -/
import Derived.Test.YtkiplmabjeadgaaGreatBpW7R
import Derived.Test.YtkiplmabjeadgaaGreatFaMR
import Derived.Test.YtkiplmabjeadgaaGreatBpFcR
import Derived.Test.YtkiplmabjeadgaaGreatBuMR
import Derived.Test.YtkiplmabjeadgaaGreatBpWkR
namespace Go.Proofs.YtkiplmabjeadgaaGreat
set_option maxRecDepth 100000
set_option maxHeartbeats 16000000
open Go.ChangeShapes Go.WideShapes Go.ChangeAt Go.RowKit Go.Maps Go.WideMaps
set_option linter.unusedVariables false
set_option linter.unusedSimpArgs false
structure Pdm (w : World) (B : Nat) (fs : List Ft) (g gc bm cap : Nat) (vd vw : Value) (ws : List Wk) (D : Bd) : Prop where
 blk : vb w g 84 [.slice (some ⟨gc,0,none⟩) 13824 13824,vd,vw,.map (some bm)]
 cel : vb w gc 141 (csl D.cs)
 dn : w.ownsRow B 9 1 vd D.done.length (strs (onm fs D.done))
 wk : w.ownsRow B 189 1 vw D.done.length (ws.map Wk.v)
 mp : MpN w bm cap fs D.done
 len : ws.length = D.done.length
theorem Pdm.bel {w w' : World} {B : Nat} {fs : List Ft} {g gc bm cap : Nat} {vd vw : Value} {ws : List Wk} {D : Bd} (h : Pdm w B fs g gc bm cap vd vw ws D) (hb : Below w.heap.size w w') : Pdm w' B fs g gc bm cap vd vw ws D :=
  ⟨h.blk.bel hb,h.cel.bel hb,own_bel h.dn hb,own_bel h.wk hb,h.mp.bel hb,h.len⟩
theorem ktN_or (k : Int) : ktN k = 240 ∨ ktN k = 241:=by unfold ktN;split <;> simp
theorem Wk.len {k : Wk} (h : k.ok) : k.bx.length ≤ 8:=by
 cases k with
 | free t b => simp [Wk.bx]
 | row t b n x y z => rw [show (Wk.row t b n x y z).bx = wbN b n x y z from rfl,wbN_len];exact h.2.2.1
def WoAns (fs : List Ft) (D : Bd) (f : Ft) (w : World) (e : Ending) (w' : World) : Prop :=
 (match stood fs D f with
  | .inl x => ∃ v,e = .returned (.tuple #[.nilIface,.int .i64 x.1,v]) ∧ SRow w' w.heap.size v x.2
  | .inr l => if (l.any fun b => !bxOk b) = true then ∃ v,e = .returned (.tuple #[.nilIface,.int .i64 5,v]) ∧ SRow w' w.heap.size v [f.nm]
   else ∃ k : Wk,k.ok ∧ k.bx = l ∧ k.t = ktN (kdF fs f) ∧ (f.kd ≠ 3 → emp f.on = true → k = .free (ktN f.kd) (ftB f)) ∧ e = .returned (.tuple #[k.v,.int .i64 0,.slice none 0 0])) ∧ Below w.heap.size w w'
theorem wkU_ok {fs : List Ft} {f : Ft} (hf : Fb f) (ho : f.kd = 3 → bxS 24 (ftB (ofF fs f))) : (wkU fs f).ok:=by
 unfold wkU
 split
 ·rename_i h3
  refine ⟨ktN_or _,bxS_mono (ho h3) (by omega),by have:=hf.ct;omega,hf.far⟩
 ·exact ⟨ktN_or _,bxS_mono hf.bx (by omega)⟩
theorem unmoved_any {B g gc bm cap : Nat} {vd vw : Value} {fs : List Ft} {ws : List Wk} {D : Bd} {f : Ft} {w : World} (hP : Pdm w B fs g gc bm cap vd vw ws D) (hf : Fb f) (hs : f.ov.size ≤ maxLen) (hn : D.done.length ≤ 900)
  (hof : f.kd = 3 → ∃ j,byOf fs D.done f.ov = j + 1 ∧ ws[j]? = some (.free (ktN (ofF fs f).kd) (ftB (ofF fs f)))) :
  Calls Tryz.prog 152 #[.pointer (some ⟨g,0,none⟩),ftv f] w fun e w' => e = .returned (wkU fs f).v ∧ Below w.heap.size w w':=by
 rcases hf.kd with h | h | h
 ·have e : (wkU fs f).v = .iface 240 (bxv (ftB f)):=by unfold wkU;rw [h];rfl
  rw [e];exact unmoved1_any g f w h
 ·have e : (wkU fs f).v = .iface 241 (bxv (ftB f)):=by unfold wkU;rw [h];rfl
  rw [e];exact unmoved2_any g f w h
 ·obtain ⟨j,hj,hw⟩:=hof h
  obtain ⟨c,hc⟩ : ∃ c : Nat,f.ct = (c : Int):=⟨f.ct.toNat,by have:=hf.ct;omega⟩
  have e : (wkU fs f).v = .iface 243 (.agg #[.iface (ktN (ofF fs f).kd) (bxv (ftB (ofF fs f))),.int .i64 f.ct,.int .i64 f.dx,.int .i64 f.dy,.int .i64 f.dz]):=by
   unfold wkU;rw [if_pos h,hc];rfl
  rw [e];have hjl:=(List.getElem?_eq_some_iff.1 hw).1;have hl:=hP.len;obtain ⟨u,cw,rfl,_,_,hg⟩:=own_form hP.wk;obtain ⟨gw,rfl,_,hgl,hx⟩:=hg (by omega);exact unmoved3_any g gw bm _ cw cap j _ _ _ _ fs D.done f w h hs hP.blk hP.mp hj (by omega) (by omega) (hx j _ (by rw [List.getElem?_map,hw];rfl)) hgl
theorem workOf_any {B g gc bm cap i : Nat} {vd vw : Value} {fs : List Ft} {ws : List Wk} {D : Bd} {f : Ft} {w : World} (hP : Pdm w B fs g gc bm cap vd vw ws D) (hF : Fine fs) (hfi : fs[i]? = some f) (hok : Okd fs D) (hn : D.done.length ≤ 900)
  (hs : f.ov.size ≤ maxLen) (hos : f.on.size ≤ maxLen) (hof : f.kd = 3 → bxS 24 (ftB (ofF fs f)) ∧ ∃ j,byOf fs D.done f.ov = j + 1 ∧ ws[j]? = some (.free (ktN (ofF fs f).kd) (ftB (ofF fs f)))) :
  Calls Tryz.prog 117 #[.pointer (some ⟨g,0,none⟩),ftv f] w (WoAns fs D f w):=by
 have hfb:=ftr_fb (hF.right f (List.mem_of_getElem? hfi));have HUN:=hide (fun W (h : Below w.heap.size w W) => unmoved_any (hP.bel h) hfb hs hn (fun h3 => (hof h3).2));have HUO:=hide (wkU_ok hfb (fun h3 => (hof h3).1));have HP:=hide (fun W (h : Below w.heap.size w W) => hP.bel h);have HFB:=hide hfb;have HOK:=hide hok;have HOS:=hide hos
 obtain ⟨k0,hk0⟩ : ∃ k,wkU fs f = k:=⟨_,rfl⟩
 rw [hk0] at HUN HUO;have HKU:=hide hk0;clear hP hF hfi hok hn hs hos hof hfb hk0;unfold ftv at HUN ⊢;go_enter Tryz.func117,Tryz.ntmps117;go_wp2_with fail;have hbA:=ba (bfl w.heap.size w) (.cells #[.string f.nm,.string f.on,.string f.ov,.int .i64 f.kd,.int .i64 f.sd,.int .i64 f.x0,.int .i64 f.y0,.int .i64 f.z0,.int .i64 f.x1,.int .i64 f.y1,.int .i64 f.z1,.int .i64 f.ct,.int .i64 f.dx,.int .i64 f.dy,.int .i64 f.dz] 75);refine (zu HUN _ hbA).mono ?_;rintro e W1 ⟨rfl,hb1⟩;have HB1:=hide (bc hbA hb1);have HV1:=hide ((vb_new w 75 (ftc f) w.heap.size rfl).bel hb1)
 have c1:=(zu HV1).cell (m:=1) rfl;clear hb1 hbA HUN
 go_upto_if 14 with fail
 clear c1
 go_cut [7] (fun s7 wx => ∃ (l : List Bx) (k : Wk),stood fs D f = .inr l ∧ s7 = k.v ∧ k.ok ∧ k.bx = l ∧ k.t = ktN (kdF fs f) ∧ (f.kd ≠ 3 → emp f.on = true → k = .free (ktN f.kd) (ftB f)) ∧ Below w.heap.size w wx ∧ vb wx w.heap.size 75 (ftc f))
 case first =>
  by_cases ho : emp f.on = true
  ·have b1 : (!f.on.toList.isEmpty) = false:=by
    have : f.on.toList.isEmpty = emp f.on:=by rw [emp_l];cases f.on.toList <;> rfl
    rw [this,ho];rfl
   rw [b1];have HST:=hide (show stood fs D f = .inr (bxs fs f) by unfold stood;rw [if_pos ho]);clear b1 ho;go_wp2_with fail
   go_meet
   case rel =>
    have hk:=zu HKU;refine ⟨_,k0,zu HST,rfl,zu HUO,by rw [← hk,wkU_bx],by rw [← hk,wkU_t],fun h3 _ => ?_,zu HB1,zu HV1⟩;rw [← hk];unfold wkU;rw [if_neg h3]
  ·have ho' : emp f.on = false:=by simpa using ho
   have b1 : (!f.on.toList.isEmpty) = true:=by
    have : f.on.toList.isEmpty = emp f.on:=by rw [emp_l];cases f.on.toList <;> rfl
    rw [this,ho'];rfl
   rw [b1];obtain ⟨h3,hd1,hd2⟩:=(zu HFB).on ho'
   obtain ⟨sd,hsd⟩ : ∃ c : Nat,f.sd = (c : Int):=⟨f.sd.toNat,by omega⟩
   obtain ⟨nb,hnb⟩ : ∃ c : Nat,byOf fs D.done f.on = c:=⟨_,rfl⟩
   have htl : tlds fs D = sqPs D.cs 13824:=sqPs_tld (zu HOK).iv 13824 (Nat.le_refl _);have hfc : Fce D.cs _ (ofO (tlds fs D) nb sd):=face_of (by omega);have hsm : ∀ b ∈ ofO (tlds fs D) nb sd,bxS 1000 b:=ofO_S;have hln : (ofO (tlds fs D) nb sd).length ≤ 100000:=by have:=ofO_len_le (tlds fs D) nb sd;have:=tlds_len fs D;omega
   obtain ⟨lf,hlf⟩ : ∃ l,ofO (tlds fs D) nb sd = l:=⟨_,rfl⟩
   rw [hlf] at hfc hsm hln
   have hst : stood fs D f = if lf = [] then .inl (8,[f.nm,f.on]) else if 1 < pcsL lf then .inl (13,[f.nm,f.on]) else .inr [mvB (ftB f) (hul lf).x0 (hul lf).y0 (hul lf).z0]:=by
    unfold stood;rw [if_neg ho,hnb,hsd];simp only [Int.toNat_natCast,hlf]
   have HST:=hide hst;have HPC:=hide hfc.pieces;have HFP:=hide (fun W (h : Below w.heap.size w W) => faceP_any g gc bm cap vd vw fs D.done D.cs f.on sd nb lf W (zu HP W h).blk (zu HP W h).cel (zu HP W h).mp (zu HOS) hnb (by rw [← htl];exact hlf) hfc.nodup hsm hln);have HSM:=hide hsm;have HSD:=hide hsd;have HK3:=hide h3;have HHO:=hide ho;clear b1 ho ho' h3 hd1 hd2 hnb htl hfc hsm hln hlf hst;have c0:=(zu HV1).cell (m:=0) rfl;have c1:=(zu HV1).cell (m:=1) rfl;have c4:=(zu HV1).cell (m:=4) rfl;rw [hsd] at c4;clear hsd;go_wp2_with fail;refine (zu HFP _ (zu HB1)).mono ?_
   rintro e W2 ⟨rfl,hb2⟩;have HB2:=hide (bc (zu HB1) hb2);have hv2:=(zu HV1).bel hb2;have HV2:=hide hv2;clear hb2 hv2 c0 c1 c4
   by_cases h0 : lf = []
   ·have hfc : fcP f.on sd lf = fcN ⟨#[]⟩ 0 0 0 bx0:=by unfold fcP;rw [if_pos h0]
    rw [hfc];have HST1:=hide (show stood fs D f = .inl (8,[f.nm,f.on]) by rw [zu HST,if_pos h0]);unfold fcN bx0;simp only;clear hfc
    go_upto_region 5 with fail
    have hbZ:=ba (bfl W2.heap.size W2) (.cells #[.string ⟨#[]⟩,.int .i64 0,.int .i64 0,.int .i64 0,.int .i64 0,.int .i64 0,.int .i64 0,.int .i64 0,.int .i64 0,.int .i64 0] 43);have hvZ:=(zu HV2).bel hbZ;have HBZ:=hide (bc (zu HB2) hbZ);refine Go.Code.wp_mono (Only.to (fun _ _ h => h)) (wo5 (hide (hvZ.cell (m:=0) rfl)) (hide (hvZ.cell (m:=1) rfl)) ?_);intro n4 W3 hb3 hv3 hn3
    have HE:=hide (show WoAns fs D f w (.returned (.tuple #[.nilIface,.int .i64 8,.slice (some ⟨n4,0,none⟩) 2 2])) W3 by
     unfold WoAns;rw [zu HST1]
     exact ⟨⟨_,rfl,(show vb W3 n4 9 (strs [f.nm,f.on]) from hv3).srow (Nat.le_trans (zu HBZ).size hn3) (by simp)⟩,bc (zu HBZ) hb3⟩)
    clear hb3 hv3 hn3 hbZ hvZ;go_wp2_with fail;refine bodyPost_ret (v:=.tuple #[.nilIface,.int .i64 8,.slice (some ⟨n4,0,none⟩) 2 2]) (by simp [results,Tryz.results117,go_sem]) rfl ?_;exact zu HE
   ·obtain ⟨ar,har⟩ : ∃ n,lf.length = n:=⟨_,rfl⟩
    have ha0 : ar ≠ 0:=fun e => h0 (List.eq_nil_of_length_eq_zero (har.trans e))
    have e0 : ((ar : Int) == 0) = false:=by simpa using ha0
    obtain ⟨pc,hpc⟩ : ∃ n,pcsL lf = n:=⟨_,rfl⟩
    have hfc : fcP f.on sd lf = fcN f.on (sd : Int) (ar : Int) (pc : Int) (hul lf):=by
     unfold fcP;rw [if_neg h0,← zu HPC,hpc,har]
    rw [hfc]
    obtain ⟨⟨q0,q1,q2,q3,q4,q5⟩,hq⟩ : ∃ b,hul lf = b:=⟨_,rfl⟩
    have HQ:=hide hq;rw [hq];unfold fcN;simp only;clear hfc har ha0 hq
    by_cases h1p : 1 < pc
    ·have e1 : decide ((1 : Int) < (pc : Int)) = true:=dt (by omega)
     have HST1:=hide (show stood fs D f = .inl (13,[f.nm,f.on]) by rw [zu HST,if_neg h0,hpc,if_pos h1p]);clear hpc h1p
     go_upto_region 7 with fail
     have hbZ:=ba (bfl W2.heap.size W2) (.cells #[.string f.on,.int .i64 (sd : Int),.int .i64 (ar : Int),.int .i64 (pc : Int),.int .i64 q0,.int .i64 q1,.int .i64 q2,.int .i64 q3,.int .i64 q4,.int .i64 q5] 43);have hvZ:=(zu HV2).bel hbZ;have HBZ:=hide (bc (zu HB2) hbZ);refine Go.Code.wp_mono (Only.to (fun _ _ h => h)) (wo7 (hide (hvZ.cell (m:=0) rfl)) (hide (hvZ.cell (m:=1) rfl)) ?_);intro n4 W3 hb3 hv3 hn3
     have HE:=hide (show WoAns fs D f w (.returned (.tuple #[.nilIface,.int .i64 13,.slice (some ⟨n4,0,none⟩) 2 2])) W3 by
      unfold WoAns;rw [zu HST1]
      exact ⟨⟨_,rfl,(show vb W3 n4 9 (strs [f.nm,f.on]) from hv3).srow (Nat.le_trans (zu HBZ).size hn3) (by simp)⟩,bc (zu HBZ) hb3⟩)
     clear hb3 hv3 hn3 hbZ hvZ;go_wp2_with fail;refine bodyPost_ret (v:=.tuple #[.nilIface,.int .i64 13,.slice (some ⟨n4,0,none⟩) 2 2]) (by simp [results,Tryz.results117,go_sem]) rfl ?_;exact zu HE
    ·have e1 : decide ((1 : Int) < (pc : Int)) = false:=df (by omega)
     have HST1:=hide (show stood fs D f = .inr [mvB (ftB f) q0 q1 q2] by rw [zu HST,if_neg h0,hpc,if_neg h1p,zu HQ])
     have hk0v : k0 = .free (ktN f.kd) (ftB f):=by
      rw [← zu HKU];unfold wkU;rw [if_neg (zu HK3)]
     obtain ⟨⟨a1,a2⟩,⟨a3,a4⟩,⟨a5,a6⟩,_⟩ : bxS 1000 ⟨q0,q1,q2,q3,q4,q5⟩:=by rw [← zu HQ];exact hul_S h0 (zu HSM)
     have HMV:=hide (fun W => workMoved_any (ktN f.kd) (ftB f) q0 q1 q2 W (ktN_or _) (bxS_mono (zu HFB).bx (by omega)) ⟨a1,a2⟩ ⟨a3,a4⟩ ⟨a5,a6⟩);have HMS:=hide (mvB_S (zu HFB).bx ⟨a1,a2⟩ ⟨a3,a4⟩ ⟨a5,a6⟩);have HLW:=hide (fun W => lowest_any ⟨q0,q1,q2,q3,q4,q5⟩ W);have hk0e : k0.v = .iface (ktN f.kd) (bxv (ftB f)):=by rw [hk0v];rfl
     rw [hk0e]
     obtain ⟨bv,hbv⟩ : ∃ b,bxv (ftB f) = b:=⟨_,rfl⟩
     rw [hbv] at HMV ⊢;unfold plv at HMV;unfold bxv at HLW;simp only at HLW;clear hpc h1p hk0v hk0e hbv a1 a2 a3 a4 a5 a6 h0;go_wp2_with fail;refine (zu HLW _).mono ?_;rintro e W3 ⟨rfl,hb3⟩;have hbZ:=ba (bfl W2.heap.size W2) (.cells #[.string f.on,.int .i64 (sd : Int),.int .i64 (ar : Int),.int .i64 (pc : Int),.int .i64 q0,.int .i64 q1,.int .i64 q2,.int .i64 q3,.int .i64 q4,.int .i64 q5] 43);have HB3:=hide (bc (bc (zu HB2) hbZ) hb3);have HV3:=hide (((zu HV2).bel hbZ).bel hb3);clear hb3 hbZ;go_wp2_with fail;refine (zu HMV _).mono ?_;rintro e W4 ⟨rfl,hb4⟩
     have HB4:=hide (bc (zu HB3) hb4);have HV4:=hide ((zu HV3).bel hb4);clear hb4;go_wp2_with fail
     go_meet
     case rel =>
      refine ⟨_,.free (ktN f.kd) (mvB (ftB f) q0 q1 q2),zu HST1,rfl,⟨ktN_or _,bxS_mono (zu HMS) (by omega)⟩,rfl,?_,fun _ h => (zu HHO h).elim,zu HB4,zu HV4⟩
      show ktN f.kd = ktN (kdF fs f)
      unfold kdF;rw [if_neg (zu HK3)]
 case rest =>
  obtain ⟨l,k,hst,rfl,hko,hkb,hkt,hkf,hb,hv⟩:=hcut;have HST:=hide hst;have HKO:=hide hko;have HKB:=hide hkb;have HKT:=hide hkt;have HKF:=hide hkf;have HB:=hide hb;have HV:=hide hv;obtain ⟨t,u,fn,hkv,hfn,hme,hbx⟩:=Wk.boxes hko;rw [hkb] at hbx;have HKV:=hide hkv;have HBX:=hide hbx;clear hst hkb hkt hkf hb hv hko hbx HKU HUO HB1 HV1;rw [hkv];clear hkv
  rcases hfn with rfl | rfl | rfl
  ·go_wp2_with fail
   refine (zu HBX _).mono ?_;rintro e W1 ⟨⟨ua,p,n,cu,rfl,hl,hsl,_⟩,hb1⟩;have HB1:=hide (bc (zu HB) hb1);have HV1:=hide ((zu HV).bel hb1);have HCF:=hide (containsF_any l n cu p 0 ua W1 hl (by have:=Wk.len (zu HKO);rw [zu HKB] at this;omega) hsl)
   obtain ⟨r,hr⟩ : ∃ r,(l.any fun b => !bxOk b) = r:=⟨_,rfl⟩
   rw [hr] at HCF;have HR:=hide hr;clear hb1 hsl hl hr;go_wp2_with fail;refine (zu HCF).mono ?_;rintro e W2 ⟨rfl,hb2⟩;have HB2:=hide (bc (zu HB1) hb2);have HV2:=hide ((zu HV1).bel hb2);clear hb2
   cases r with
   | true =>
    go_upto_region 10 with fail
    refine Go.Code.wp_mono (Only.to (fun _ _ h => h)) (wo10 (hide ((zu HV2).cell (m:=0) rfl)) ?_);intro n4 W3 hb3 hv3 hn3
    have HE:=hide (show WoAns fs D f w (.returned (.tuple #[.nilIface,.int .i64 5,.slice (some ⟨n4,0,none⟩) 1 1])) W3 by
     unfold WoAns;rw [zu HST];simp only [zu HR,if_true]
     exact ⟨⟨_,rfl,(show vb W3 n4 9 (strs [f.nm]) from hv3).srow (Nat.le_trans (zu HB2).size hn3) (by simp)⟩,bc (zu HB2) hb3⟩)
    clear hb3 hv3 hn3;go_wp2_with fail;refine bodyPost_ret (v:=.tuple #[.nilIface,.int .i64 5,.slice (some ⟨n4,0,none⟩) 1 1]) (by simp [results,Tryz.results117,go_sem]) rfl ?_;exact zu HE
   | false =>
    have HE:=hide (show WoAns fs D f w (.returned (.tuple #[.iface t u,.int .i64 0,.slice none 0 0])) W2 by
     unfold WoAns;rw [zu HST];simp only [zu HR]
     exact ⟨⟨k,zu HKO,zu HKB,zu HKT,zu HKF,by rw [zu HKV]⟩,zu HB2⟩)
    go_wp2_with fail;refine bodyPost_ret (v:=.tuple #[.iface t u,.int .i64 0,.slice none 0 0]) (by simp [results,Tryz.results117,go_sem]) rfl ?_;exact zu HE
  ·go_wp2_with fail
   refine (zu HBX _).mono ?_;rintro e W1 ⟨⟨ua,p,n,cu,rfl,hl,hsl,_⟩,hb1⟩;have HB1:=hide (bc (zu HB) hb1);have HV1:=hide ((zu HV).bel hb1);have HCF:=hide (containsF_any l n cu p 0 ua W1 hl (by have:=Wk.len (zu HKO);rw [zu HKB] at this;omega) hsl)
   obtain ⟨r,hr⟩ : ∃ r,(l.any fun b => !bxOk b) = r:=⟨_,rfl⟩
   rw [hr] at HCF;have HR:=hide hr;clear hb1 hsl hl hr;go_wp2_with fail;refine (zu HCF).mono ?_;rintro e W2 ⟨rfl,hb2⟩;have HB2:=hide (bc (zu HB1) hb2);have HV2:=hide ((zu HV1).bel hb2);clear hb2
   cases r with
   | true =>
    go_upto_region 10 with fail
    refine Go.Code.wp_mono (Only.to (fun _ _ h => h)) (wo10 (hide ((zu HV2).cell (m:=0) rfl)) ?_);intro n4 W3 hb3 hv3 hn3
    have HE:=hide (show WoAns fs D f w (.returned (.tuple #[.nilIface,.int .i64 5,.slice (some ⟨n4,0,none⟩) 1 1])) W3 by
     unfold WoAns;rw [zu HST];simp only [zu HR,if_true]
     exact ⟨⟨_,rfl,(show vb W3 n4 9 (strs [f.nm]) from hv3).srow (Nat.le_trans (zu HB2).size hn3) (by simp)⟩,bc (zu HB2) hb3⟩)
    clear hb3 hv3 hn3;go_wp2_with fail;refine bodyPost_ret (v:=.tuple #[.nilIface,.int .i64 5,.slice (some ⟨n4,0,none⟩) 1 1]) (by simp [results,Tryz.results117,go_sem]) rfl ?_;exact zu HE
   | false =>
    have HE:=hide (show WoAns fs D f w (.returned (.tuple #[.iface t u,.int .i64 0,.slice none 0 0])) W2 by
     unfold WoAns;rw [zu HST];simp only [zu HR]
     exact ⟨⟨k,zu HKO,zu HKB,zu HKT,zu HKF,by rw [zu HKV]⟩,zu HB2⟩)
    go_wp2_with fail;refine bodyPost_ret (v:=.tuple #[.iface t u,.int .i64 0,.slice none 0 0]) (by simp [results,Tryz.results117,go_sem]) rfl ?_;exact zu HE
  ·go_wp2_with fail
   refine (zu HBX _).mono ?_;rintro e W1 ⟨⟨ua,p,n,cu,rfl,hl,hsl,_⟩,hb1⟩;have HB1:=hide (bc (zu HB) hb1);have HV1:=hide ((zu HV).bel hb1);have HCF:=hide (containsF_any l n cu p 0 ua W1 hl (by have:=Wk.len (zu HKO);rw [zu HKB] at this;omega) hsl)
   obtain ⟨r,hr⟩ : ∃ r,(l.any fun b => !bxOk b) = r:=⟨_,rfl⟩
   rw [hr] at HCF;have HR:=hide hr;clear hb1 hsl hl hr;go_wp2_with fail;refine (zu HCF).mono ?_;rintro e W2 ⟨rfl,hb2⟩;have HB2:=hide (bc (zu HB1) hb2);have HV2:=hide ((zu HV1).bel hb2);clear hb2
   cases r with
   | true =>
    go_upto_region 10 with fail
    refine Go.Code.wp_mono (Only.to (fun _ _ h => h)) (wo10 (hide ((zu HV2).cell (m:=0) rfl)) ?_);intro n4 W3 hb3 hv3 hn3
    have HE:=hide (show WoAns fs D f w (.returned (.tuple #[.nilIface,.int .i64 5,.slice (some ⟨n4,0,none⟩) 1 1])) W3 by
     unfold WoAns;rw [zu HST];simp only [zu HR,if_true]
     exact ⟨⟨_,rfl,(show vb W3 n4 9 (strs [f.nm]) from hv3).srow (Nat.le_trans (zu HB2).size hn3) (by simp)⟩,bc (zu HB2) hb3⟩)
    clear hb3 hv3 hn3;go_wp2_with fail;refine bodyPost_ret (v:=.tuple #[.nilIface,.int .i64 5,.slice (some ⟨n4,0,none⟩) 1 1]) (by simp [results,Tryz.results117,go_sem]) rfl ?_;exact zu HE
   | false =>
    have HE:=hide (show WoAns fs D f w (.returned (.tuple #[.iface t u,.int .i64 0,.slice none 0 0])) W2 by
     unfold WoAns;rw [zu HST];simp only [zu HR]
     exact ⟨⟨k,zu HKO,zu HKB,zu HKT,zu HKF,by rw [zu HKV]⟩,zu HB2⟩)
    go_wp2_with fail;refine bodyPost_ret (v:=.tuple #[.iface t u,.int .i64 0,.slice none 0 0]) (by simp [results,Tryz.results117,go_sem]) rfl ?_;exact zu HE
open Go.ChangeShapes Go.WideShapes Go.ChangeAt Go.RowKit
theorem ofI_mem {l : List Sq} {n : Nat} {s : Int} {b : Bx} (h : b ∈ ofI l n s) : ∃ q ∈ l,q.nb = n ∧ (q.sd : Int) = s ∧ b = q.bx:=by
 unfold ofI at h;rw [List.mem_map] at h;obtain ⟨q,hq,rfl⟩:=h;rw [List.mem_filter] at hq;obtain ⟨h1,h2⟩:=hq;rw [Bool.and_eq_true,beq_iff_eq,beq_iff_eq] at h2;exact ⟨q,h1,h2.1,h2.2,rfl⟩
theorem byL_mem {fs : List Ft} {l : List Nat} {s : ByteArray} : ∀ {n : Nat},n ≤ l.length → byL fs l s n ≠ 0 → s ∈ onm fs l
 | 0,_,h => (h rfl).elim
 | n + 1,hn,h => by
  rw [byL_step] at h
  by_cases e : sEq (fs.getD (l.getD n 0) ft0).nm s = true
  ·have hx : l[n]? = some l[n]:=List.getElem?_eq_getElem (by omega)
   rw [show l.getD n 0 = l[n] by rw [List.getD_eq_getElem?_getD,hx];rfl] at e;rw [← sEq_iff.1 e];unfold onm;exact List.mem_map.2 ⟨l[n],List.getElem_mem _,rfl⟩
  ·rw [if_neg e] at h
   exact byL_mem (by omega) h
def faL (fs : List Ft) (D : Bd) (nm : ByteArray) (side : Int) : List Bx:=ofI (tlds fs D) (byOf fs D.done nm) side
theorem fcsN_mem {fs : List Ft} {D : Bd} {s : ByteArray} {f : Fc} : ∀ {n : Nat},f ∈ fcsN fs D s n ↔ f.nm = s ∧ 1 ≤ f.sd ∧ f.sd ≤ n ∧ f.l = ofO (tlds fs D) (byOf fs D.done s) f.sd ∧ f.l ≠ []
 | 0 => by
  constructor
  ·intro h;exact (List.not_mem_nil h).elim
  ·rintro ⟨_,h1,h2,_⟩;omega
 | n + 1 => by
  by_cases e : ofO (tlds fs D) (byOf fs D.done s) (n + 1) = []
  ·rw [fcsN_nil e,fcsN_mem]
   constructor
   ·rintro ⟨h1,h2,h3,h4⟩;exact ⟨h1,h2,by omega,h4⟩
   ·rintro ⟨h1,h2,h3,h4,h5⟩
    refine ⟨h1,h2,?_,h4,h5⟩
    by_cases e2 : f.sd = n + 1
    ·rw [e2,e] at h4;exact (h5 h4).elim
    ·omega
  ·have hc:=fcsN_cons e
   obtain ⟨l,hl⟩ : ∃ l,ofO (tlds fs D) (byOf fs D.done s) (n + 1) = l:=⟨_,rfl⟩
   rw [hl] at hc e;rw [hc,List.mem_append,List.mem_singleton,fcsN_mem];constructor
   ·rintro (⟨h1,h2,h3,h4⟩ | rfl)
    ·exact ⟨h1,h2,by omega,h4⟩
    ·exact ⟨rfl,Nat.succ_le_succ (Nat.zero_le _),Nat.le_refl _,hl.symm,e⟩
   ·rintro ⟨h1,h2,h3,h4,h5⟩
    by_cases e2 : f.sd = n + 1
    ·right
     rw [e2,hl] at h4;obtain ⟨fn,fsd,fl⟩:=f;simp only at h1 e2 h4;rw [h1,e2,h4]
    ·exact .inl ⟨h1,h2,by omega,h4,h5⟩
theorem fcs_mem {fs : List Ft} {D : Bd} {f : Fc} : f ∈ fcs fs D ↔ f.nm ∈ onm fs D.done ∧ 1 ≤ f.sd ∧ f.sd ≤ 6 ∧ f.l = ofO (tlds fs D) (byOf fs D.done f.nm) f.sd ∧ f.l ≠ []:=by
 unfold fcs fcsL;rw [List.mem_flatMap];constructor
 ·rintro ⟨s,hs,hf⟩
  obtain ⟨h1,h2,h3,h4,h5⟩:=fcsN_mem.1 hf;subst h1;exact ⟨mem_srt.1 hs,h2,h3,h4,h5⟩
 ·rintro ⟨h0,h2,h3,h4,h5⟩
  exact ⟨f.nm,mem_srt.2 h0,fcsN_mem.2 ⟨rfl,h2,h3,h4,h5⟩⟩
theorem fcs_no {fs : List Ft} {D : Bd} (hok : Okd fs D) {nm : ByteArray} {side : Int} (h : ∀ f ∈ fcs fs D,¬ (f.nm = nm ∧ (f.sd : Int) = side)) : faL fs D nm side = []:=by
 cases hl : faL fs D nm side with
 | nil => rfl
 | cons b t =>
  exfalso;obtain ⟨q,hq,h1,h2,_⟩:=ofI_mem (show b ∈ ofI (tlds fs D) (byOf fs D.done nm) side by show b ∈ faL fs D nm side;rw [hl];simp);obtain ⟨⟨h3,h4⟩,h5,h6⟩:=tlds_nb hok hq
  obtain ⟨k,rfl⟩ : ∃ k : Nat,side = (k : Int):=⟨q.sd,h2.symm⟩
  have hk : q.sd = k:=by omega
  have hne : ofO (tlds fs D) (byOf fs D.done nm) k ≠ []:=by
   rw [← ofI_nat]
   show faL fs D nm (k : Int) ≠ []
   rw [hl];simp
  obtain ⟨l,hl2⟩ : ∃ l,ofO (tlds fs D) (byOf fs D.done nm) k = l:=⟨_,rfl⟩
  rw [hl2] at hne
  have hn0 : byL fs D.done nm D.done.length ≠ 0:=by
   have : byOf fs D.done nm = byL fs D.done nm D.done.length:=rfl;omega
  exact h ⟨nm,k,l⟩ (fcs_mem.2 ⟨byL_mem (Nat.le_refl _) hn0,by show 1 ≤ k;omega,by show k ≤ 6;omega,hl2.symm,hne⟩) ⟨rfl,rfl⟩
theorem fcs_yes {fs : List Ft} {D : Bd} {f : Fc} (h : f ∈ fcs fs D) : f.l = faL fs D f.nm (f.sd : Int) ∧ faL fs D f.nm (f.sd : Int) ≠ []:=by
 obtain ⟨_,_,_,h4,h5⟩:=fcs_mem.1 h
 have e : faL fs D f.nm (f.sd : Int) = f.l:=by
  unfold faL;rw [ofI_nat,h4]
 rw [e];exact ⟨rfl,h5⟩
def FaAns (fs : List Ft) (off : List ByteArray) (nm : ByteArray) (side : Int) (c : Int) (v : Value) : Prop :=
 if 65536 < nm.size then c = 2 ∧ v = fcN ⟨#[]⟩ 0 0 0 bx0
 else ∃ cb ab D,Bu fs off cb ab D ∧ ((cb ≠ 0 ∧ c = cb ∧ v = fcN ⟨#[]⟩ 0 0 0 bx0) ∨ (cb = 0 ∧ ∃ D',D = some D' ∧ ((faL fs D' nm side = [] ∧ c = 8 ∧ v = fcN ⟨#[]⟩ 0 0 0 bx0) ∨
  (faL fs D' nm side ≠ [] ∧ c = 0 ∧ v = fcN nm side ((faL fs D' nm side).length : Int) ((pcsL (faL fs D' nm side) : Nat) : Int) (hul (faL fs D' nm side))))))
theorem FaAns.uniq {fs : List Ft} {off : List ByteArray} {nm : ByteArray} {side c c' : Int} {v v' : Value} (h : FaAns fs off nm side c v) (k : FaAns fs off nm side c' v') : c = c' ∧ v = v':=by
 unfold FaAns at h k
 split at h
 ·rename_i e
  rw [if_pos e] at k;exact ⟨h.1.trans k.1.symm,h.2.trans k.2.symm⟩
 ·rename_i e
  rw [if_neg e] at k;obtain ⟨cb,ab,D,hb,h⟩:=h;obtain ⟨cb',ab',D',hb',k⟩:=k;obtain ⟨rfl,rfl,rfl⟩:=hb.uniq hb'
  rcases h with ⟨h1,rfl,rfl⟩ | ⟨h1,E,rfl,h⟩
  ·rcases k with ⟨k1,rfl,rfl⟩ | ⟨k1,_⟩
   ·exact ⟨rfl,rfl⟩
   ·exact (h1 k1).elim
  ·rcases k with ⟨k1,_⟩ | ⟨k1,E',e,k⟩
   ·exact (k1 h1).elim
   ·cases e
    rcases h with ⟨h2,rfl,rfl⟩ | ⟨h2,rfl,rfl⟩
    ·rcases k with ⟨k2,rfl,rfl⟩ | ⟨k2,_⟩
     ·exact ⟨rfl,rfl⟩
     ·exact (k2 h2).elim
    ·rcases k with ⟨k2,_⟩ | ⟨k2,rfl,rfl⟩
     ·exact (h2 k2).elim
     ·exact ⟨rfl,rfl⟩
end Go.Proofs.YtkiplmabjeadgaaGreat
