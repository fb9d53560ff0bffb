/- The model's order of features. -/
import Derived.Test.YtkiplmabjeadgaaGreatBdMemR
import Derived.Test.YtkiplmabjeadgaaGreatRtNR
import Derived.Test.YtkiplmabjeadgaaGreatFtMathR
import Derived.Test.YtkiplmabjeadgaaGreatNmAtR
namespace Go.Proofs.YtkiplmabjeadgaaGreat
set_option maxRecDepth 100000
set_option maxHeartbeats 16000000
open Go.ChangeShapes Go.WideShapes Go.ChangeAt Go.RowKit
set_option linter.unusedVariables false
set_option linter.unusedSimpArgs false
def strs (l : List ByteArray) : List Value:=l.map Value.string
def SRow (w : World) (B : Nat) (v : Value) (l : List ByteArray) : Prop:=w.ownsRow B 9 1 v l.length (strs l)
theorem SRow.bel {w w' : World} {B : Nat} {v : Value} {l : List ByteArray} (h : SRow w B v l) (hb : Below w.heap.size w w') : SRow w' B v l:=own_bel h hb
theorem SRow.mono {w : World} {B B' : Nat} {v : Value} {l : List ByteArray} (h : SRow w B v l) (hb : B' ≤ B) : SRow w B' v l:=own_mono h hb
def NmS (w : World) (v : Value) (nm : List (List Nat)) : Prop:=∃ u c,v = .slice u nm.length c ∧ NmAt w u nm
theorem vb.srow {w : World} {B g : Nat} {l : List ByteArray} (h : vb w g 9 (strs l)) (hB : B ≤ g) (hl : l.length ≤ 4096) : SRow w B (.slice (some ⟨g,0,none⟩) l.length l.length) l:=h.owns hB (by simp [strs]) (by unfold maxLen;omega)
def InnO (ob : Option Nat) (w : World) (v : Value) (l : List Nat) : Prop:=∃ (u : Option Addr) (c : Nat),v = .slice u l.length c ∧ (l ≠ [] → ∃ g o,u = some ⟨g,o,none⟩ ∧ g < w.heap.size ∧ some g ≠ ob ∧ IntsAt w g o (nats l))
theorem InnO.inn {ob : Option Nat} {w : World} {v : Value} {l : List Nat} (h : InnO ob w v l) : Inn w v l:=by
 obtain ⟨u,c,rfl,h1⟩:=h;refine ⟨u,c,rfl,fun h0 => ?_⟩;obtain ⟨g,o,rfl,h2,_,h3⟩:=h1 h0;exact ⟨g,o,rfl,h2,h3⟩
theorem InnO.bel {ob : Option Nat} {w w' : World} {v : Value} {l : List Nat} (h : InnO ob w v l) (hb : Below w.heap.size w w') : InnO ob w' v l:=by
 obtain ⟨u,c,rfl,h1⟩:=h;refine ⟨u,c,rfl,fun h0 => ?_⟩;obtain ⟨g,o,rfl,h2,h4,h3⟩:=h1 h0;exact ⟨g,o,rfl,Nat.lt_of_lt_of_le h2 hb.size,h4,h3.below hb h2⟩
theorem InnO.grow {w w' : World} {v x x' : Value} {l : List Nat} (h : InnO x.ownBlock w v l) (hg : w.grownBy w' x.ownBlock) (hn : NewBlk w x x') : InnO x'.ownBlock w' v l:=by
 obtain ⟨u,c,rfl,h1⟩:=h;refine ⟨u,c,rfl,fun h0 => ?_⟩;obtain ⟨g,o,rfl,h2,h4,h3⟩:=h1 h0;refine ⟨g,o,rfl,Nat.lt_of_lt_of_le h2 hg.size,?_,fun j z hj => (World.cell?_of_block (w:=w) (a:=⟨g,o + j,none⟩) (hg.block g h2 h4)).trans (h3 j z hj)⟩;intro e
 rcases hn g e.symm with k | k
 ·exact h4 k.symm
 ·omega
def Half (w : World) (B : Nat) (v : Value) (nm : List (List Nat)) : Prop:=∃ vs : List Value,w.ownsRow B 94 1 v nm.length vs ∧ ∀ (j : Nat) (l : List Nat),nm[j]? = some l → ∃ x,vs[j]? = some x ∧ InnO v.ownBlock w x l
theorem Half.bel {w w' : World} {B : Nat} {v : Value} {nm : List (List Nat)} (h : Half w B v nm) (hb : Below w.heap.size w w') : Half w' B v nm:=by
 obtain ⟨vs,h1,h2⟩:=h;refine ⟨vs,own_bel h1 hb,fun j l hj => ?_⟩;obtain ⟨x,hx,hi⟩:=h2 j l hj;exact ⟨x,hx,hi.bel hb⟩
theorem Half.nmS {w : World} {B : Nat} {v : Value} {nm : List (List Nat)} (h : Half w B v nm) : NmS w v nm:=by
 obtain ⟨vs,h1,h2⟩:=h;obtain ⟨u,cap,rfl,_,_,h3⟩:=own_form h1;refine ⟨u,cap,rfl,fun h0 => ?_⟩;obtain ⟨g,rfl,_,hg,hc⟩:=h3 (by intro e;exact h0 (List.eq_nil_of_length_eq_zero e));refine ⟨g,0,rfl,hg,fun i l hi => ?_⟩;obtain ⟨x,hx,hI⟩:=h2 i l hi;exact ⟨x,by rw [Nat.zero_add];exact hc i x hx,hI.inn⟩
theorem info9 : (Tryz.prog.info? 9).map (fun i => (i.zero,i.size,i.bytes)) = some (some (.string ⟨#[]⟩),1,16):=by kernel_rfl
def CkAns (fs : List Ft) (w : World) (e : Ending) (w' : World) : Prop :=
 (∃ v1 c v3 ab,e = .returned (.tuple #[v1,.int .i64 c,v3]) ∧ Chk fs c ab ∧ SRow w' w.heap.size v3 ab ∧ (c = 0 → NmS w' v1 (nms fs))) ∧ Below w.heap.size w w'
theorem SlG.at15 {w : World} {u : Option Addr} {p po : Nat} {fs : List Ft} (h : SlG ftc 15 w u p po fs) {i : Nat} {f : Ft} (hi : fs[i]? = some f) : u = some ⟨p,po,none⟩ ∧
  w.cell? ⟨p,po + i * 15,none⟩ = some (.string f.nm) ∧ w.cell? ⟨p,po + i * 15 + 1,none⟩ = some (.string f.on) ∧ w.cell? ⟨p,po + i * 15 + 2,none⟩ = some (.string f.ov) ∧ w.cell? ⟨p,po + i * 15 + 3,none⟩ = some (.int .i64 f.kd) ∧ w.cell? ⟨p,po + i * 15 + 4,none⟩ = some (.int .i64 f.sd) ∧
  w.cell? ⟨p,po + i * 15 + 5,none⟩ = some (.int .i64 f.x0) ∧ w.cell? ⟨p,po + i * 15 + 6,none⟩ = some (.int .i64 f.y0) ∧ w.cell? ⟨p,po + i * 15 + 7,none⟩ = some (.int .i64 f.z0) ∧ w.cell? ⟨p,po + i * 15 + 8,none⟩ = some (.int .i64 f.x1) ∧ w.cell? ⟨p,po + i * 15 + 9,none⟩ = some (.int .i64 f.y1) ∧ w.cell? ⟨p,po + i * 15 + 10,none⟩ = some (.int .i64 f.z1) ∧
  w.cell? ⟨p,po + i * 15 + 11,none⟩ = some (.int .i64 f.ct) ∧ w.cell? ⟨p,po + i * 15 + 12,none⟩ = some (.int .i64 f.dx) ∧ w.cell? ⟨p,po + i * 15 + 13,none⟩ = some (.int .i64 f.dy) ∧ w.cell? ⟨p,po + i * 15 + 14,none⟩ = some (.int .i64 f.dz):=by
 obtain ⟨h1,_,h2⟩:=h.at hi;exact ⟨h1,h2 0 _ rfl,h2 1 _ rfl,h2 2 _ rfl,h2 3 _ rfl,h2 4 _ rfl,h2 5 _ rfl,h2 6 _ rfl,h2 7 _ rfl,h2 8 _ rfl,h2 9 _ rfl,h2 10 _ rfl,h2 11 _ rfl,h2 12 _ rfl,h2 13 _ rfl,h2 14 _ rfl⟩
theorem checkM_any (u : Option Addr) (p po n cu : Nat) (fs : List Ft) (w : World) (hl : fs.length = n) (hn : n ≤ 1048576) (hcu : n ≤ cu) (hs : ∀ f ∈ fs,f.nm.size ≤ maxLen ∧ f.on.size ≤ maxLen ∧ f.ov.size ≤ maxLen) (hu : SlG ftc 15 w u p po fs) :
  Calls Tryz.prog 74 #[.slice u n cu] w (CkAns fs w):=by
 obtain ⟨iI,hi,hz0,hz1,hz2⟩:=info_parts info3;obtain ⟨iS,hj,hy0,hy1,hy2⟩:=info_parts info45;obtain ⟨iT,ht,hx0,hx1,hx2⟩:=info_parts info9;have HU:=hide hu;have HL:=hide hl;have HS:=hide hs;clear hu hl hs
 by_cases hL : 4096 < n
 ·have d1 : decide ((4096 : Int) < (n : Int)) = true:=dt (by omega)
  go_enter Tryz.func74,Tryz.ntmps74;go_wp2_with fail;refine bodyPost_ret (v:=.tuple #[.slice (some ⟨w.heap.size,0,none⟩) 0 0,.int .i64 2,.slice (some ⟨w.heap.size + 1,0,none⟩) 0 0]) (by simp [results,Tryz.results74,go_sem]) rfl ?_;exact ⟨⟨_,_,_,[],rfl,chk_long (by rw [zu HL];exact hL),own_made (w.alloc (.cells #[] 94)) 9 w.heap.size 1 (by simp) _ (by simp),fun h => by cases h⟩,ba (ba (bfl _ _) _) _⟩
 have d1 : decide ((4096 : Int) < (n : Int)) = false:=df (by omega)
 by_cases hM : 30 < n
 ·have d2 : decide ((30 : Int) < (n : Int)) = true:=dt (by omega)
  go_enter Tryz.func74,Tryz.ntmps74;go_wp2_with fail;refine bodyPost_ret (v:=.tuple #[.slice (some ⟨w.heap.size,0,none⟩) 0 0,.int .i64 10,.slice (some ⟨w.heap.size + 1,0,none⟩) 0 0]) (by simp [results,Tryz.results74,go_sem]) rfl ?_;exact ⟨⟨_,_,_,[],rfl,chk_many (by rw [zu HL];exact hL) (by rw [zu HL];exact hM),own_made (w.alloc (.cells #[] 94)) 9 w.heap.size 1 (by simp) _ (by simp),fun h => by cases h⟩,ba (ba (bfl _ _) _) _⟩
 have d2 : decide ((30 : Int) < (n : Int)) = false:=df (by omega);have hM' : ¬ 30 < fs.length:=by rw [zu HL];exact hM
 have HM:=hide hM';clear hM';go_enter Tryz.func74,Tryz.ntmps74;go_wp2_with fail
 go_loopw [5] (fun s W => ∃ i : Nat,s = .int .i64 (i : Int) ∧ i ≤ n ∧ (∀ (j : Nat) (g : Ft),j < i → fs[j]? = some g → (!ftr g) = false) ∧ Below w.heap.size w W) (fun s _ => n - (intOf s).toNat)
 case atStart => exact ⟨0,rfl,Nat.zero_le _,fun j g hj => by omega,bfl _ _⟩
 case round =>
  obtain ⟨i,rfl,hil,hok,hw⟩:=hrel;have HK:=hide hok;have HW:=hide hw;clear hok hw
  by_cases h : i < n
  ·have i1 : (i : Int) < (n : Int):=by omega
   have i0 : (0 : Int) ≤ (i : Int):=Int.natCast_nonneg _;have iz : decide ((i : Int) < (n : Int)) = true:=dt i1;obtain ⟨f,hx⟩:=get_some (zu HL) h;obtain ⟨rfl,k0,k1,k2,k3,k4,k5,k6,k7,k8,k9,k10,k11,k12,k13,k14⟩:=((zu HU).bel (zu HW)).at15 hx;have HX:=hide hx;obtain ⟨s1,s2,s3⟩:=zu HS f (List.mem_of_getElem? hx);have HR:=hide (fun W => rightM_any f W s1 s2 s3);unfold ftv at HR;clear hx s1 s2 s3;generalize hft : ftr f = b at HR;have HFT:=hide hft;clear hft;go_wp2_with fail;refine (zu HR _).mono ?_;rintro e W1 ⟨rfl,hb⟩;have HW1:=hide (bc (zu HW) hb)
   have y0:=keep1 hb k0;have yl:=cell_lt y0;clear hb k0 k1 k2 k3 k4 k5 k6 k7 k8 k9 k10 k11 k12 k13 k14
   cases b
   ·have HCK:=hide (chk_bad (zu HM) (find_first (zu HX) (by rw [zu HFT];rfl) (zu HK)))
    go_wp2_with fail
    go_region_held3 (fun wx => wx.cell? ⟨p,po + i * 15,none⟩ = some (.string f.nm)) (simp (maxDischargeDepth:=12) [go_sem,le1,lt1, *]) (fail)
    all_goals
     go_wp2_with fail
     first
     | (refine bodyPost_ret (v:=.tuple #[.slice (some ⟨W1.heap.size,0,none⟩) 0 0,.int .i64 1,.slice (some ⟨W1.heap.size + 1,0,none⟩) 1 1]) (by simp [results,Tryz.results74,go_sem];done) rfl ?_
        refine ⟨⟨_,_,_,[f.nm],rfl,zu HCK,vb.srow (vb_new2 W1 9 (strs [f.nm]) _) (Nat.le_trans (zu HW1).size (by omega)) (by simp),fun h => by cases h⟩,?_⟩
        repeat (first | exact zu HW1 | refine ba ?_ _ | refine Below.drew ?_))
     | (refine bodyPost_ret (v:=.tuple #[.slice (some ⟨W1.heap.size + 1,0,none⟩) 0 0,.int .i64 1,.slice (some ⟨W1.heap.size,0,none⟩) 1 1]) (by simp [results,Tryz.results74,go_sem];done) rfl ?_
        refine ⟨⟨_,_,_,[f.nm],rfl,zu HCK,vb.srow (vb_new1 W1 9 (strs [f.nm]) _) (zu HW1).size (by simp),fun h => by cases h⟩,?_⟩
        repeat (first | exact zu HW1 | refine ba ?_ _ | refine Below.drew ?_))
   ·go_wp2_with fail
    go_roundw
    case rel =>
     refine ⟨i + 1,by simp,h,?_,zu HW1⟩;intro j g hj hg
     by_cases e : j = i
     ·subst e
      rw [zu HX] at hg
      cases hg
      rw [zu HFT];rfl
     ·exact zu HK j g (by omega) hg
    case measure => simp only [intOf];omega
  ·have i1 : ¬ (i : Int) < (n : Int):=by omega
   have iz : decide ((i : Int) < (n : Int)) = false:=df i1;have hbad : fs.find? (fun f => !ftr f) = none:=find_none fun j g hg => zu HK j g (by have:=(List.getElem?_eq_some_iff.1 hg).1;rw [zu HL] at this;omega) hg
   have HBD:=hide hbad;clear hbad HK h;go_wp2_with fail;rename World => W0
   clear iz
   go_loopw [6] (fun s W => ∃ i : Nat,s = .int .i64 (i : Int) ∧ i ≤ n ∧ (∀ (j : Nat) (g : Ft),j < i → fs[j]? = some g → findN (fs.take j) g.nm = none) ∧ Below w.heap.size w W) (fun s _ => n - (intOf s).toNat)
   case atStart => exact ⟨0,rfl,Nat.zero_le _,fun j g hj => by omega,zu HW⟩
   case round =>
    obtain ⟨i,rfl,hil,hok,hw⟩:=hrel;rename World => W0
    have HK:=hide hok;have HW1:=hide hw;clear hok hw HW
    by_cases h : i < n
    ·have i1 : (i : Int) < (n : Int):=by omega
     have i0 : (0 : Int) ≤ (i : Int):=Int.natCast_nonneg _;have iz : decide ((i : Int) < (n : Int)) = true:=dt i1;have iy : (i : Int) ≤ (n : Int):=by omega
     have ic : (i : Int) ≤ (cu : Int):=by omega
     obtain ⟨f,hx⟩:=get_some (zu HL) h;obtain ⟨rfl,k0,_⟩:=((zu HU).bel (zu HW1)).at15 hx;have yl:=cell_lt k0;have HX:=hide hx;have HF:=hide (fun W (hb : Below w.heap.size w W) => find_any (some ⟨p,po,none⟩) p po i cu (fs.take i) f.nm W (by rw [List.length_take,zu HL];omega) (by omega) (((zu HU).bel hb).take i));clear hx
     cases hq : findN (fs.take i) f.nm with
     | none =>
      rw [findI_none hq] at HF;have HQ:=hide hq;clear hq;go_wp2_with fail
      go_region_held3 (fun wx => wx.cell? ⟨p,po + i * 15,none⟩ = some (.string f.nm)) (simp (maxDischargeDepth:=12) [go_sem,le1,lt1, *]) (first | (go_at_call 75;refine (zu HF _ (by repeat (first | exact zu HW1 | refine Below.drew ?_))).mono ?_;rintro e w' ⟨rfl,hww⟩;subst hww))
      all_goals
       go_wp2_with fail;go_roundw
       case rel =>
        refine ⟨i + 1,by simp,h,?_,by repeat (first | exact zu HW1 | refine Below.drew ?_)⟩;intro j g hj hg
        by_cases e : j = i
        ·subst e
         rw [zu HX] at hg
         cases hg
         exact zu HQ
        ·exact zu HK j g (by omega) hg
       case measure => simp only [intOf];omega
     | some q =>
      rw [findI_some hq] at HF;have HQ:=hide hq;clear hq;have q0 : (0 : Int) ≤ (q : Int):=Int.natCast_nonneg _;have qz : decide ((0 : Int) ≤ (q : Int)) = true:=dt q0;have HCK:=hide (chk_twice (zu HM) (zu HBD) (twi_some (zu HX) (by rw [zu HQ];simp) (zu HK)));go_wp2_with fail
      go_region_held3 (fun wx => wx.cell? ⟨p,po + i * 15,none⟩ = some (.string f.nm)) (simp (maxDischargeDepth:=12) [go_sem,le1,lt1, *]) (first | (go_at_call 75;refine (zu HF _ (by repeat (first | exact zu HW1 | refine Below.drew ?_))).mono ?_;rintro e w' ⟨rfl,hww⟩;subst hww))
      all_goals
       go_wp2_with fail
       go_region_held3 (fun wx => wx.cell? ⟨p,po + i * 15,none⟩ = some (.string f.nm)) (simp (maxDischargeDepth:=12) [go_sem,le1,lt1, *]) (fail)
      all_goals
       go_wp2_with fail
       first
       | (refine bodyPost_ret (v:=.tuple #[.slice (some ⟨W0.heap.size,0,none⟩) 0 0,.int .i64 7,.slice (some ⟨W0.heap.size + 1,0,none⟩) 1 1]) (by simp [results,Tryz.results74,go_sem];done) rfl ?_
          refine ⟨⟨_,_,_,[f.nm],rfl,zu HCK,vb.srow (vb_new2 W0 9 (strs [f.nm]) _) (Nat.le_trans (zu HW1).size (by omega)) (by simp),fun h => by cases h⟩,?_⟩
          repeat (first | exact zu HW1 | refine ba ?_ _ | refine Below.drew ?_))
       | (refine bodyPost_ret (v:=.tuple #[.slice (some ⟨W0.heap.size + 1,0,none⟩) 0 0,.int .i64 7,.slice (some ⟨W0.heap.size,0,none⟩) 1 1]) (by simp [results,Tryz.results74,go_sem];done) rfl ?_
          refine ⟨⟨_,_,_,[f.nm],rfl,zu HCK,vb.srow (vb_new1 W0 9 (strs [f.nm]) _) (zu HW1).size (by simp),fun h => by cases h⟩,?_⟩
          repeat (first | exact zu HW1 | refine ba ?_ _ | refine Below.drew ?_))
    ·have i1 : ¬ (i : Int) < (n : Int):=by omega
     have iz : decide ((i : Int) < (n : Int)) = false:=df i1;have htw : twi fs = none:=twi_none fun j g hg => zu HK j g (by have:=(List.getElem?_eq_some_iff.1 hg).1;rw [zu HL] at this;omega) hg
     have HTW:=hide htw;clear htw HK h;have HR0:=hide (own_made W0 94 W0.heap.size 1 (Nat.le_refl _) _ rfl);go_wp2_with fail;clear iz i1
     go_loopw [7,8] (fun v s W => ∃ i : Nat,s = .int .i64 (i : Int) ∧ i ≤ n ∧ (∀ (j : Nat) (g : Ft),j < i → fs[j]? = some g → wrg fs g = none) ∧ Half W W0.heap.size v ((nms fs).take i) ∧ W0.heap.size ≤ W.heap.size ∧ Below w.heap.size w W) (fun _ s _ => n - (intOf s).toNat)
     case atStart => exact ⟨0,rfl,Nat.zero_le _,fun j g hj => by omega,⟨[],zu HR0,fun j l hj => by simp at hj⟩,by simp,ba (zu HW1) _⟩
     case round =>
      obtain ⟨i,rfl,hil,hok,hhalf,hsz,hw⟩:=hrel;have HHB:=hide (zu HW1).size;have HK:=hide hok;have HH:=hide hhalf;have HSZ:=hide hsz;have HW2:=hide hw;clear hok hhalf hsz hw HW1 HR0
      by_cases h : i < n
      ·have i1 : (i : Int) < (n : Int):=by omega
       have i0 : (0 : Int) ≤ (i : Int):=Int.natCast_nonneg _;have iz : decide ((i : Int) < (n : Int)) = true:=dt i1;obtain ⟨f,hx⟩:=get_some (zu HL) h;have h1o:=ftr_one (by have:=find_not (zu HBD) (List.mem_of_getElem? hx);simpa using this);have HWR:=hide (fun W (hb : Below w.heap.size w W) => wrongM_any u p po n cu fs f W (zu HL) hn ((zu HU).bel hb) h1o);have HNA:=hide (fun (hn2 : wrg fs f = none) W (hb : Below w.heap.size w W) => namesM_any u p po n cu fs f W (zu HL) hn ((zu HU).bel hb) h1o hn2)
       obtain ⟨rfl,k0,k1,k2,k3,k4,k5,k6,k7,k8,k9,k10,k11,k12,k13,k14⟩:=((zu HU).bel (zu HW2)).at15 hx;have HX:=hide hx;unfold ftv at HWR HNA;clear hx h1o;generalize hwq : wrgS fs f = sq at HWR;have HSQ:=hide hwq;clear hwq;go_wp2_with fail;refine (zu HWR _ (zu HW2)).mono ?_;rintro e W1 ⟨rfl,hb⟩;have HW3:=hide (bc (zu HW2) hb);have HH1:=hide ((zu HH).bel hb);have HSZ1:=hide (Nat.le_trans (zu HSZ) hb.size);have HOB : Hid (∀ g,u7.ownBlock = some g → g < W1.heap.size):=hide (fun g hg => by obtain ⟨vs,h1,_⟩:=zu HH1;exact (own_ge h1 g hg).2);have y0:=keep1 hb k0
       have y1:=keep1 hb k1;have y2:=keep1 hb k2;have y3:=keep1 hb k3;have y4:=keep1 hb k4;have y5:=keep1 hb k5;have y6:=keep1 hb k6;have y7:=keep1 hb k7;have y8:=keep1 hb k8;have y9:=keep1 hb k9;have y10:=keep1 hb k10;have y11:=keep1 hb k11;have y12:=keep1 hb k12;have y13:=keep1 hb k13;have y14:=keep1 hb k14;have yl:=cell_lt y0;clear hb k0 k1 k2 k3 k4 k5 k6 k7 k8 k9 k10 k11 k12 k13 k14 HW2 HH HSZ
       by_cases hse : sq.toList = []
       ·have hse' : (sq.toList == []) = true:=by simp [hse]
        have hno : wrg fs f = none:=wrgS_iff.1 (by rw [zu HSQ,emp_l];exact hse');have HNO:=hide hno;clear hno;go_wp2_with fail;refine (zu HNA (zu HNO) _ (zu HW3)).mono ?_;rintro e W2 ⟨vx,rfl,hrx,hb⟩;obtain ⟨ux,cx,rfl,_⟩:=hrx.form;have HRX:=hide hrx;have HW4:=hide (bc (zu HW3) hb);have HH2:=hide ((zu HH1).bel hb);have HSZ2:=hide (Nat.le_trans (zu HSZ1) hb.size);clear hb hrx y0 y1 y2 y3 y4 y5 y6 y7 y8 y9 y10 y11 y12 y13 y14;obtain ⟨vs,hvs,hvi⟩:=zu HH2;have HVS:=hide hvs;have HVI:=hide hvi;clear hvs hvi HH1 HH2
        have hnl : ((nms fs).take i).length = i:=by rw [List.length_take];unfold nms;rw [List.length_map,zu HL];omega
        rw [hnl] at HVS;have HNL:=hide hnl;clear hnl
        go_wp2_with (at_builtin;refine zu ?_)
        refine hide ?_;refine wpList_append_new _ rfl _ _ 122 rfl W0.heap.size 94 iS _ 1 24 Tryz.underlying122 hj hy0 hy1 hy2 rfl (by decide) _ i vs rfl ((zu HVS).alloc _) _ 1 1 ([.slice ux (nmd fs f).length cx]) rfl rfl (by first | exact news_cells _ _ rfl | exact news_cells _ _ (by simp)) (by intro u hu;simp only [List.mem_singleton] at hu;subst hu;rfl) (by unfold maxLen;omega) (by omega) (Nat.le_trans (zu HSZ2) (by simp)) ?_;intro v' w1 hown' hgrow _ hnew;have hal : Below W2.heap.size W2 (W2.alloc (.cells #[.slice ux (nmd fs f).length cx] 94)):=ba (bfl _ _) _
        have hsz1 : W0.heap.size ≤ w1.heap.size:=Nat.le_trans (zu HSZ2) (Nat.le_trans hal.size hgrow.size);have hbw1 : Below w.heap.size w w1:=((zu HW4).trans (hal.mono (zu HW4).size)).grown hgrow (Nat.le_trans (zu HW4).size hal.size) (fun j hj => Nat.le_trans (zu HHB) (own_ge (zu HVS) j hj).1)
        have hhalf : Half w1 W0.heap.size v' ((nms fs).take (i + 1)):=by
         have hni : (nms fs)[i]? = some (nmd fs f):=by unfold nms;rw [List.getElem?_map,zu HX];rfl
         refine ⟨vs ++ [.slice ux (nmd fs f).length cx],?_,?_⟩
         ·rw [show ((nms fs).take (i + 1)).length = i + 1 by rw [List.length_take];unfold nms;rw [List.length_map,zu HL];omega]
          exact hown'
         ·intro j l hj'
          rw [List.take_add_one,hni] at hj'
          by_cases hji : j < i
          ·rw [List.getElem?_append_left (by rw [zu HNL];exact hji)] at hj'
           obtain ⟨x,hx,hI⟩:=zu HVI j l hj';refine ⟨x,by rw [List.getElem?_append_left (by have:=(List.getElem?_eq_some_iff.1 hx).1;exact this)];exact hx,?_⟩;exact (hI.bel hal).grow hgrow hnew
          ·rw [List.getElem?_append_right (by rw [zu HNL];omega),zu HNL] at hj'
           have hj0 : j - i = 0:=by
            rcases Nat.eq_zero_or_pos (j - i) with e | e
            ·exact e
            ·rw [List.getElem?_eq_none (by simp;omega)] at hj';cases hj'
           rw [hj0] at hj';simp only [Option.toList_some,List.getElem?_cons_zero,Option.some.injEq] at hj';subst hj';have hvl : vs.length = i:=by have:=(zu HVS).1;omega
           refine ⟨_,by rw [List.getElem?_append_right (by omega),hvl,hj0];rfl,?_⟩
           have hin : InnO u7.ownBlock W2 (.slice ux (nmd fs f).length cx) (nmd fs f):=by
            refine ⟨ux,cx,rfl,fun h0 => ?_⟩;obtain ⟨u9,c9,e9,h9⟩:=(zu HRX).form
            cases e9
            obtain ⟨g,rfl,hg1,hg2,hg3⟩:=h9 (by intro e;exact h0 (List.eq_nil_of_length_eq_zero e));exact ⟨g,0,rfl,hg2,(fun e => by have:=zu HOB g e.symm;omega),hg3⟩
           exact (hin.bel hal).grow hgrow hnew
        have HHF:=hide hhalf;have HSZ3:=hide hsz1;have HW5:=hide hbw1;clear hown' hgrow hnew hal hsz1 hbw1 hhalf;go_wp2_with fail;go_roundw
        case rel =>
         refine ⟨i + 1,by simp,h,?_,zu HHF,zu HSZ3,zu HW5⟩;intro j g hj' hg
         by_cases e : j = i
         ·subst e
          rw [zu HX] at hg
          cases hg
          exact zu HNO
         ·exact zu HK j g (by omega) hg
        case measure => simp only [intOf];omega
       ·have hse' : (sq.toList == []) = false:=by simpa using hse
        have hsome : (wrg fs f).isSome = true:=by
         cases hw : wrg fs f with
         | some _ => rfl
         | none =>
          have:=wrgS_iff.2 hw;rw [zu HSQ,emp_l,hse'] at this
          cases this
        have HCK:=hide (chk_name (zu HM) (zu HBD) (zu HTW) (find_first (zu HX) hsome (fun j g hj hg => by rw [zu HK j g hj hg];rfl)));have hsq:=zu HSQ;unfold wrgS at hsq;rw [hsq] at HCK;clear hsq hsome;clear y1 y2 y3 y4 y5 y6 y7 y8 y9 y10 y11 y12 y13 y14;go_wp2_with fail
        go_region_held3 (fun wx => wx.cell? ⟨p,po + i * 15,none⟩ = some (.string f.nm)) (simp (maxDischargeDepth:=12) [go_sem,le1,lt1, *]) (fail)
        all_goals
         go_wp2_with fail
         first
         | (refine bodyPost_ret (v:=.tuple #[.slice (some ⟨W1.heap.size,0,none⟩) 0 0,.int .i64 6,.slice (some ⟨W1.heap.size + 1,0,none⟩) 2 2]) (by simp [results,Tryz.results74,go_sem];done) rfl ?_
            refine ⟨⟨_,_,_,[f.nm,sq],rfl,zu HCK,vb.srow (vb_new2 W1 9 (strs [f.nm,sq]) _) (Nat.le_trans (zu HW3).size (by omega)) (by simp),fun h => by cases h⟩,?_⟩
            repeat (first | exact zu HW3 | refine ba ?_ _ | refine Below.drew ?_))
         | (refine bodyPost_ret (v:=.tuple #[.slice (some ⟨W1.heap.size + 1,0,none⟩) 0 0,.int .i64 6,.slice (some ⟨W1.heap.size,0,none⟩) 2 2]) (by simp [results,Tryz.results74,go_sem];done) rfl ?_
            refine ⟨⟨_,_,_,[f.nm,sq],rfl,zu HCK,vb.srow (vb_new1 W1 9 (strs [f.nm,sq]) _) (zu HW3).size (by simp),fun h => by cases h⟩,?_⟩
            repeat (first | exact zu HW3 | refine ba ?_ _ | refine Below.drew ?_))
      ·have i1 : ¬ (i : Int) < (n : Int):=by omega
       have iz : decide ((i : Int) < (n : Int)) = false:=df i1;have hin : n = i:=by omega
       subst hin
       have hwn : ∀ f ∈ fs,wrg fs f = none:=by
        intro f hf;obtain ⟨j,hj',rfl⟩:=List.getElem_of_mem hf;exact zu HK j _ (by rw [zu HL] at hj';exact hj') (List.getElem?_eq_getElem hj')
       have HWN:=hide hwn;have hnl : (nms fs).length = n:=by unfold nms;rw [List.length_map];exact zu HL
       have HNL:=hide hnl;have hh:=zu HH;rw [List.take_of_length_le (by omega)] at hh;have HH1:=hide hh;have hnone:=nms_one (fun f hf => by have:=find_not (zu HBD) hf;simpa using this) hwn;have HON:=hide hnone;obtain ⟨uN,cN,rfl,hnat⟩:=hh.nmS;rw [hnl];rw [hnl] at HH1;have HNT:=hide hnat;clear hwn hnl hh hnone hnat HH HK h;rename World => W1
       have HR1:=hide (row_made W1 3 W1.heap.size 1 (Nat.le_refl _) _ rfl);go_wp2_with fail;clear i1 iz
       go_loopw [10,11] (fun v s W => ∃ k : Nat,s = .int .i64 (k : Int) ∧ k ≤ n ∧ (∃ b,Bst (sc (nms fs)) k b ∧ Inn W v b) ∧ NmAt W uN (nms fs) ∧ Half W W0.heap.size (.slice uN n cN) (nms fs) ∧ Below w.heap.size w W) (fun _ s _ => n - (intOf s).toNat)
       case atStart => exact ⟨0,rfl,Nat.zero_le _,⟨[],rfl,_,_,rfl,fun h => absurd rfl h⟩,(zu HNT).bel (ba (bfl _ _) _),(zu HH1).bel (ba (bfl _ _) _),ba (zu HW2) _⟩
       case round =>
        obtain ⟨k,rfl,hkn,⟨b,hbst,hinn⟩,hna,hhf,hw⟩:=hrel;rename World => W3
        have HBS:=hide hbst;have HNA:=hide hna;have HHF:=hide hhf;have HW3:=hide hw;obtain ⟨ub,cb,rfl,hub⟩:=hinn;have HIB : Hid (Inn W3 (.slice ub b.length cb) b):=hide ⟨ub,cb,rfl,hub⟩;clear hbst hub hna hhf hw HNT HW2 HR1 HH1
        by_cases h : k < n
        ·have i1 : (k : Int) < (n : Int):=by omega
         have i0 : (0 : Int) ≤ (k : Int):=Int.natCast_nonneg _;have iz : decide ((k : Int) < (n : Int)) = true:=dt i1;have HCM:=hide (circleM_any uN n cN k (nms fs) W3 (zu HNL) (by omega) h (zu HNA) (zu HON));go_wp2_with fail;refine (zu HCM).mono ?_;rintro e W4 ⟨⟨vc,c,rfl,hic,hcy⟩,hb⟩;obtain ⟨uc,cc,rfl,huc⟩:=hic;have HIC : Hid (Inn W4 (.slice uc c.length cc) c):=hide ⟨uc,cc,rfl,huc⟩;have HW4:=hide (bc (zu HW3) hb);have HNA4:=hide ((zu HNA).bel hb);have HHF4:=hide ((zu HHF).bel hb);have HIB4:=hide ((zu HIB).bel hb)
         have HB1 : Hid (Bst (sc (nms fs)) (k + 1) (better b c)):=hide ⟨b,c,zu HBS,hcy,rfl⟩;clear hb huc hcy HCM
         by_cases hc0 : 0 < c.length
         ·have z1 : decide ((0 : Int) < (c.length : Int)) = true:=dt (by omega)
          have z1' : (0 : Int) < (c.length : Int):=by omega
          by_cases hb0 : b.length = 0
          ·have z2 : ((b.length : Int) == 0) = true:=by rw [beq_iff_eq];omega
           have hbt : better b c = c:=if_pos ⟨hc0,.inl hb0⟩;rw [hbt] at HB1;clear hbt hb0;go_wp2_with fail;go_roundw
           case rel => exact ⟨k + 1,by simp,h,⟨c,zu HB1,zu HIC⟩,zu HNA4,zu HHF4,zu HW4⟩
           case measure => simp only [intOf];omega
          ·have z2 : ((b.length : Int) == 0) = false:=by rw [beq_eq_false_iff_ne];omega
           by_cases hcb : c.length < b.length
           ·have z3 : decide ((c.length : Int) < (b.length : Int)) = true:=dt (by omega)
            have z3' : (c.length : Int) < (b.length : Int):=by omega
            have hbt : better b c = c:=if_pos ⟨hc0,.inr hcb⟩;rw [hbt] at HB1;clear hbt hb0;go_wp2_with fail;go_roundw
            case rel => exact ⟨k + 1,by simp,h,⟨c,zu HB1,zu HIC⟩,zu HNA4,zu HHF4,zu HW4⟩
            case measure => simp only [intOf];omega
           ·have z3 : decide ((c.length : Int) < (b.length : Int)) = false:=df (by omega)
            have z3' : ¬ (c.length : Int) < (b.length : Int):=by omega
            have hbt : better b c = b:=if_neg (by omega);rw [hbt] at HB1;clear hbt hb0;go_wp2_with fail;go_roundw
            case rel => exact ⟨k + 1,by simp,h,⟨b,zu HB1,zu HIB4⟩,zu HNA4,zu HHF4,zu HW4⟩
            case measure => simp only [intOf];omega
         ·have z1 : decide ((0 : Int) < (c.length : Int)) = false:=df (by omega)
          have z1' : ¬ (0 : Int) < (c.length : Int):=by omega
          have hbt : better b c = b:=if_neg (by omega);rw [hbt] at HB1;clear hbt;go_wp2_with fail;go_roundw
          case rel => exact ⟨k + 1,by simp,h,⟨b,zu HB1,zu HIB4⟩,zu HNA4,zu HHF4,zu HW4⟩
          case measure => simp only [intOf];omega
        ·have i1 : ¬ (k : Int) < (n : Int):=by omega
         have iz : decide ((k : Int) < (n : Int)) = false:=df i1;have hkn' : n = k:=by omega
         subst hkn';have hblt : ∀ x ∈ b,x < n:=by have:=(zu HBS).lt (zu HON) (by rw [zu HNL];exact Nat.le_refl _);rw [zu HNL] at this;exact this
         have hbl : b.length ≤ 4096:=by
          rcases (zu HBS).len (zu HON) (by rw [zu HNL];exact Nat.le_refl _) with e
          rw [zu HNL] at e;omega
         have HBT:=hide hblt;have HCK:=hide (chk_end (zu HM) (zu HBD) (zu HTW) (find_none fun j g hg => by rw [zu HWN g (List.mem_of_getElem? hg)];rfl) (by rw [zu HL];exact zu HBS));clear hblt;have HR3:=hide (own_made W3 9 W3.heap.size 1 (Nat.le_refl _) _ rfl);go_wp2_with fail;clear iz i1
         go_loopw [13,14] (fun v s W => ∃ j : Nat,s = .int .i64 (j : Int) ∧ j ≤ b.length ∧ W.ownsRow W3.heap.size 9 1 v j (strs ((b.take j).map fun i => (fs.getD i ft0).nm)) ∧ Below W3.heap.size W3 W) (fun _ s _ => b.length - (intOf s).toNat)
         case atStart => exact ⟨0,rfl,Nat.zero_le _,zu HR3,ba (bfl _ _) _⟩
         case round =>
          obtain ⟨j,rfl,hjb,hown,hbw⟩:=hrel;rename World => W5
          have HOW:=hide hown;have HBW:=hide hbw;have HW5:=hide (bc (zu HW3) hbw);obtain ⟨ua,ca,rfl,_⟩:=own_form hown;clear hown hbw
          by_cases h : j < b.length
          ·have i1 : (j : Int) < (b.length : Int):=by omega
           have i0 : (0 : Int) ≤ (j : Int):=Int.natCast_nonneg _;have iz : decide ((j : Int) < (b.length : Int)) = true:=dt i1;have hbj : b[j]? = some b[j]:=List.getElem?_eq_getElem h;have hbn:=zu HBT _ (List.getElem_mem h);obtain ⟨u8,c8,e8,h8⟩:=(zu HIB).bel (zu HBW)
           cases e8
           obtain ⟨gb,ob,rfl,hgb,hib⟩:=h8 (by intro e;rw [e] at h;simp at h);have k1:=hib j _ (nats_at hbj);have htk : (b.take (j + 1)).map (fun i => (fs.getD i ft0).nm) = (b.take j).map (fun i => (fs.getD i ft0).nm) ++ [(fs.getD b[j] ft0).nm]:=by rw [List.take_add_one,hbj,List.map_append];rfl
           generalize b[j] = y at *;have y1 : (y : Int) < (n : Int):=by omega
           have y0 : (0 : Int) ≤ (y : Int):=Int.natCast_nonneg _;obtain ⟨f,hx⟩:=get_some (zu HL) hbn;rw [getD_at hx] at htk;have HTK:=hide htk;obtain ⟨rfl,k0,_⟩:=((zu HU).bel (zu HW5)).at15 hx;clear hx htk hib h8 hbj
           go_wp2_with (at_builtin;refine zu ?_)
           refine hide ?_;refine wpList_append_own _ rfl _ _ 23 rfl W3.heap.size 9 iT _ 1 16 Tryz.underlying23 ht hx0 hx1 hx2 rfl (by decide) _ j _ rfl ((zu HOW).alloc _) _ 1 1 (strs [f.nm]) rfl rfl (by first | exact news_cells _ _ rfl | exact news_cells _ _ (by simp)) (by intro u hu;simp only [strs,List.map_cons,List.map_nil,List.mem_singleton] at hu;subst hu;rfl) (by unfold maxLen;omega) (by omega) (Nat.le_trans (zu HBW).size (by simp)) ?_;intro v' w1 hown' hgrow _
           have hbw1 : Below W3.heap.size W3 w1:=(ba (zu HBW) _).grown hgrow (Nat.le_trans (zu HBW).size (by simp)) (fun g hg => (own_ge (zu HOW) g hg).1)
           have hown2 : w1.ownsRow W3.heap.size 9 1 v' (j + 1) (strs ((b.take (j + 1)).map fun i => (fs.getD i ft0).nm)):=by
            rw [zu HTK];have e : strs ((b.take j).map (fun i => (fs.getD i ft0).nm) ++ [f.nm]) = strs ((b.take j).map fun i => (fs.getD i ft0).nm) ++ strs [f.nm]:=by simp [strs]
            rw [e];exact hown'
           have HO2:=hide hown2;have HB2:=hide hbw1;clear hown' hgrow hown2 hbw1;go_wp2_with fail;go_roundw
           case rel => exact ⟨j + 1,by simp,h,zu HO2,zu HB2⟩
           case measure => simp only [intOf];omega
          ·have i1 : ¬ (j : Int) < (b.length : Int):=by omega
           have iz : decide ((j : Int) < (b.length : Int)) = false:=df i1;have hjb' : b.length = j:=by omega
           have hown:=zu HOW;rw [List.take_of_length_le (by omega)] at hown
           have hsr : SRow W5 w.heap.size (.slice ua j ca) (b.map fun i => (fs.getD i ft0).nm):=by
            unfold SRow;rw [List.length_map,hjb'];exact own_mono hown (zu HW3).size
           have HSR:=hide hsr;clear hsr hown
           by_cases hb0 : b = []
           ·have z1 : decide ((0 : Int) < (b.length : Int)) = false:=df (by rw [hb0];simp)
            have z1' : ¬ (0 : Int) < (b.length : Int):=by rw [hb0];simp
            have hck:=zu HCK;rw [if_pos hb0] at hck;have HCK2:=hide hck;clear hck hb0 hjb';go_wp2_with fail;refine bodyPost_ret (v:=.tuple #[.slice uN n cN,.int .i64 0,.slice ua j ca]) (by simp [results,Tryz.results74,go_sem];done) rfl ?_;exact ⟨⟨_,_,_,_,rfl,zu HCK2,zu HSR,fun _ => ((zu HHF).bel (zu HBW)).nmS⟩,zu HW5⟩
           ·have hbp : 0 < b.length:=List.length_pos_iff.2 hb0
            have z1 : decide ((0 : Int) < (b.length : Int)) = true:=dt (by omega);have z1' : (0 : Int) < (b.length : Int):=by omega
            have hck:=zu HCK;rw [if_neg hb0] at hck;have HCK2:=hide hck;clear hck hb0 hjb' hbp;go_wp2_with fail;refine bodyPost_ret (v:=.tuple #[.slice (some ⟨W5.heap.size,0,none⟩) 0 0,.int .i64 9,.slice ua j ca]) (by simp [results,Tryz.results74,go_sem];done) rfl ?_;exact ⟨⟨_,_,_,_,rfl,zu HCK2,(zu HSR).bel (ba (bfl _ _) _),fun h => by cases h⟩,ba (zu HW5) _⟩
structure Mw (g : Nat) (w w' : World) : Prop where
 os : w'.os = w.os
 tape : w'.tape = w.tape
 output : w'.output = w.output
 size : w.heap.size ≤ w'.heap.size
 block : ∀ k,k < w.heap.size → k ≠ g → w'.heap[k]? = w.heap[k]?
theorem Mw.refl (g : Nat) (w : World) : Mw g w w:=⟨rfl,rfl,rfl,Nat.le_refl _,fun _ _ _ => rfl⟩
theorem Mw.bel {g : Nat} {a w w' : World} (h : Mw g a w) (hb : Below w.heap.size w w') : Mw g a w' :=
  ⟨hb.os.trans h.os,hb.tape.trans h.tape,hb.output.trans h.output,Nat.le_trans h.size hb.size,fun k hk hg => (hb.block k (Nat.lt_of_lt_of_le hk h.size)).trans (h.block k hk hg)⟩
theorem Mw.set {g : Nat} {a w : World} (h : Mw g a w) (o : Nat) (v : Value) : Mw g a (w.setCell ⟨g,o,none⟩ v) :=
  ⟨h.os,h.tape,h.output,by simpa [World.setCell] using h.size,fun k hk hg => (Below.heap_setCell _ _ _ _ hg).trans (h.block k hk hg)⟩
theorem Mw.below {g B : Nat} {w w' : World} (h : Mw g w w') (hB : B ≤ g) (hs : B ≤ w.heap.size) : Below B w w' :=
  ⟨h.os,h.tape,h.output,h.size,fun k hk => h.block k (by omega) (by omega)⟩
structure Fine (fs : List Ft) : Prop where
 len : fs.length ≤ 30
 right : ∀ f ∈ fs,ftr f = true
 names : ∀ f ∈ fs,wrg fs f = none
 once : twi fs = none
 all : (ord (nms fs)).length = fs.length
 one : Oneful (nms fs)
theorem nms_len (fs : List Ft) : (nms fs).length = fs.length:=by simp [nms]
theorem Chk.zero {fs : List Ft} {ab : List ByteArray} (h : Chk fs 0 ab) : Fine fs ∧ ab = []:=by
 unfold Chk at h
 split at h
 ·cases h.1
 rename_i e1
 split at h
 ·cases h.1
 rename_i e2
 split at h
 ·cases h.1
 rename_i e3
 split at h
 ·cases h.1
 rename_i e4
 split at h
 ·cases h.1
 rename_i e5
 obtain ⟨b,hb,rfl,hc⟩:=h
 have hb0 : b = []:=by
  by_cases e : b = []
  ·exact e
  ·rw [if_neg e] at hc;cases hc
 have hr : ∀ f ∈ fs,ftr f = true:=fun f hf => by simpa using find_not e3 hf
 have hw : ∀ f ∈ fs,wrg fs f = none:=fun f hf => by simpa using find_not e5 hf
 have ho:=nms_one hr hw;refine ⟨⟨by omega,hr,hw,e4,?_,ho⟩,by rw [hb0];rfl⟩;have:=(ord_all ho (by rw [nms_len];exact hb)).1 hb0;rw [nms_len] at this;exact this
def nmOf (fs : List Ft) (i : Nat) : ByteArray:=(fs.getD i ft0).nm
theorem strs_take {fs : List Ft} {l : List Nat} {j y : Nat} (h : l[j]? = some y) : strs ((l.take (j + 1)).map (nmOf fs)) = strs ((l.take j).map (nmOf fs)) ++ strs [nmOf fs y]:=by
 rw [List.take_add_one,h];simp [strs]
end Go.Proofs.YtkiplmabjeadgaaGreat
