/- The model's FaceOf. -/
import Derived.Test.YtkiplmabjeadgaaGreatBpRoR
namespace Go.Proofs.YtkiplmabjeadgaaGreat
set_option maxRecDepth 100000
set_option maxHeartbeats 16000000
open Go.ChangeShapes Go.WideShapes Go.ChangeAt Go.RowKit
set_option linter.unusedVariables false
set_option linter.unusedSimpArgs false
theorem own_slG10 {w : World} {B : Nat} {v : Value} {l : List Fc} (h : w.ownsRow B 43 10 v l.length (flatG fcc l)) : ∃ u c,v = .slice u l.length c ∧ ∀ (i : Nat) (f : Fc),l[i]? = some f → ∃ gq,u = some ⟨gq,0,none⟩ ∧ ∀ (j : Nat) (x : Value),(fcc f)[j]? = some x → w.cell? ⟨gq,i * 10 + j,none⟩ = some x:=by
 obtain ⟨u,c,rfl,_⟩:=own_form h;obtain ⟨p,hp⟩:=own_slG fcc_len h rfl;refine ⟨u,c,rfl,fun i f hi => ?_⟩;obtain ⟨h1,_,h2⟩:=hp.at hi;refine ⟨p,h1,fun j x hj => ?_⟩;have:=h2 j x hj;rw [Nat.zero_add] at this;exact this
theorem faceOfM_any (u : Option Addr) (p po n cu : Nat) (fs : List Ft) (uf : Option Addr) (mf cf : Nat) (off : List ByteArray) (nm : ByteArray) (side : Int) (w : World) (hl : fs.length = n) (hn : n ≤ 1048576) (hcu : n ≤ cu) (hs : ∀ f ∈ fs,f.nm.size ≤ maxLen ∧ f.on.size ≤ maxLen ∧ f.ov.size ≤ maxLen) (hu : SlG ftc 15 w u p po fs)
  (hof : off.length = mf) (hmf : mf ≤ 1048576) (hst : StAt w uf off) (hnm : nm.size ≤ maxLen) :
  Calls Tryz.prog 23 #[.slice u n cu,.slice uf mf cf,.string nm,.int .i64 side] w fun e w' => (∃ v c,e = .returned (.tuple #[v,.int .i64 c]) ∧ FaAns fs off nm side c v) ∧ Below w.heap.size w w':=by
 have hbA:=ba (bfl w.heap.size w) (.cells zFc.toArray 43);have HBU:=hide (buildM_any u p po n cu fs uf mf cf off _ hl hn hcu hs (hu.bel hbA) hof hmf (hst.bel hbA));have HR0:=hide (vb_new w 43 zFc _ rfl);have HBA:=hide hbA;have HI:=hide size43;have HO:=hide (rFc_one ⟨#[]⟩ 0 0 0 0 0 0 0 0 0);have HL:=hide hl;have HU:=hide hu;clear hl hs hu hof hst hbA hnm
 by_cases hlong : 65536 < nm.size
 ·have d1 : decide ((65536 : Int) < (nm.size : Int)) = true:=dt (by omega)
  have HA:=hide (show FaAns fs off nm side 2 (fcN ⟨#[]⟩ 0 0 0 bx0) by unfold FaAns;rw [if_pos hlong];exact ⟨rfl,rfl⟩);unfold zFc at HR0;clear hlong HBU;go_enter Tryz.func23,Tryz.ntmps23
  go_wp2_with (refine wpl_storeRow rfl 43 _ _ rfl w.heap.size (rFc ⟨#[]⟩ 0 0 0 0 0 0 0 0 0) rfl rfl 43 _ (zu HR0) (zu HI) rfl (zu HO) ?_)
  have h4:=vb_row (zu HR0) (rFc ⟨#[]⟩ 0 0 0 0 0 0 0 0 0);have z0:=h4.cell (m:=0) rfl;have z1:=h4.cell (m:=1) rfl;have z2:=h4.cell (m:=2) rfl;have z3:=h4.cell (m:=3) rfl;have z4:=h4.cell (m:=4) rfl;have z5:=h4.cell (m:=5) rfl;have z6:=h4.cell (m:=6) rfl;have z7:=h4.cell (m:=7) rfl;have z8:=h4.cell (m:=8) rfl;have z9:=h4.cell (m:=9) rfl
  have HB9:=hide (bel_row (ba (bfl w.heap.size w) (.cells #[.string ⟨#[]⟩,.int .i64 0,.int .i64 0,.int .i64 0,.int .i64 0,.int .i64 0,.int .i64 0,.int .i64 0,.int .i64 0,.int .i64 0] 43)) (Nat.le_refl _) (rFc ⟨#[]⟩ 0 0 0 0 0 0 0 0 0).toArray);clear h4;refine bodyPost_ret (v:=.tuple #[fcN ⟨#[]⟩ 0 0 0 bx0,.int .i64 2]) (by simp [results,Tryz.results23,go_sem,fcN,bx0,z0,z1,z2,z3,z4,z5,z6,z7,z8,z9];done) rfl ?_;exact ⟨⟨_,2,rfl,zu HA⟩,zu HB9⟩
 have d1 : decide ((65536 : Int) < (nm.size : Int)) = false:=df (by omega);have HLG:=hide hlong;unfold zFc at HR0 HBA HBU;clear hlong;go_enter Tryz.func23,Tryz.ntmps23;go_wp2_with fail;refine (zu HBU).mono ?_;rintro e W1 ⟨⟨c,ab,D,v,v3,rfl,hbu,hsr,hD⟩,hb⟩;have HR1:=hide ((zu HR0).bel hb);have HB:=hide (bc (zu HBA) hb);have HBQ:=hide hbu;have HDD:=hide hD;clear hb hbu hsr hD HBU HBA HR0
 by_cases hc : c = 0
 rotate_left
 ·have hc' : (c == 0) = false:=by simpa using hc
  have HA:=hide (show FaAns fs off nm side c (fcN ⟨#[]⟩ 0 0 0 bx0) by unfold FaAns;rw [if_neg (zu HLG)];exact ⟨c,ab,D,zu HBQ,.inl ⟨hc,rfl,rfl⟩⟩);clear hc HDD
  go_wp2_with (refine wpl_storeRow rfl 43 _ _ rfl w.heap.size (rFc ⟨#[]⟩ 0 0 0 0 0 0 0 0 0) rfl rfl 43 _ (zu HR1) (zu HI) rfl (zu HO) ?_)
  have h4:=vb_row (zu HR1) (rFc ⟨#[]⟩ 0 0 0 0 0 0 0 0 0);have z0:=h4.cell (m:=0) rfl;have z1:=h4.cell (m:=1) rfl;have z2:=h4.cell (m:=2) rfl;have z3:=h4.cell (m:=3) rfl;have z4:=h4.cell (m:=4) rfl;have z5:=h4.cell (m:=5) rfl;have z6:=h4.cell (m:=6) rfl;have z7:=h4.cell (m:=7) rfl;have z8:=h4.cell (m:=8) rfl;have z9:=h4.cell (m:=9) rfl;have HB9:=hide (bel_row (zu HB) (Nat.le_refl _) (rFc ⟨#[]⟩ 0 0 0 0 0 0 0 0 0).toArray);clear h4
  refine bodyPost_ret (v:=.tuple #[fcN ⟨#[]⟩ 0 0 0 bx0,.int .i64 c]) (by simp [results,Tryz.results23,go_sem,fcN,bx0,z0,z1,z2,z3,z4,z5,z6,z7,z8,z9];done) rfl ?_;exact ⟨⟨_,c,rfl,zu HA⟩,zu HB9⟩
 subst hc;obtain ⟨D',hD'⟩:=(zu HBQ).zero;obtain ⟨hF,hok,hdl,g,gf,gb,B,ud,cd,uo,co,rfl,hmd,hge,hlt,hne⟩:=zu HDD D' hD'
 have HAN:=hide (show ∀ (c : Int) (v : Value),((faL fs D' nm side = [] ∧ c = 8 ∧ v = fcN ⟨#[]⟩ 0 0 0 bx0) ∨ (faL fs D' nm side ≠ [] ∧ c = 0 ∧ v = fcN nm side ((faL fs D' nm side).length : Int) ((pcsL (faL fs D' nm side) : Nat) : Int) (hul (faL fs D' nm side)))) → FaAns fs off nm side c v from fun c v h => by
  unfold FaAns;rw [if_neg (zu HLG)]
  exact ⟨0,ab,D,zu HBQ,.inr ⟨rfl,D',hD',h⟩⟩)
 have HPA:=hide (partM_any hF (zu HL) ((zu HU).bel (zu HB)) hok hdl hmd);have HOK:=hide hok
 have HFN:=hide (show (fcs fs D').length ≤ 1000 by
  have h1:=fcsL_len fs D' (srt (onm fs D'.done));have h2:=foldl_ins_len (onm fs D'.done) [];rw [onm_len] at h2;have h3 : (srt (onm fs D'.done)).length ≤ D'.done.length:=by simpa [srt] using h2
  unfold fcs
  omega)
 obtain ⟨dl,hdq⟩ : ∃ k,D'.done.length = k:=⟨_,rfl⟩
 rw [hdq] at HPA;clear hF hok hdl hmd hge hlt hne HDD hD' HBQ hdq;go_wp2_with fail;refine (zu HPA).mono ?_;rintro e W2 ⟨⟨vf,rfl,hfr⟩,hb2⟩;obtain ⟨uv,cv,rfl,hcells⟩:=own_slG10 hfr
 obtain ⟨L,hL⟩ : ∃ l,fcs fs D' = l:=⟨_,rfl⟩
 rw [hL] at hcells ⊢;have HLL:=hide hL
 obtain ⟨fl,hfl⟩ : ∃ k,L.length = k:=⟨_,rfl⟩
 rw [hfl];have HFL:=hide hfl;have hfn : fl ≤ 1000:=by have:=zu HFN;rw [hL,hfl] at this;exact this
 obtain ⟨vol,hvol⟩ : ∃ k,volN D'.cs 13824 = k:=⟨_,rfl⟩
 rw [hvol];have hbP:=ba (bfl W2.heap.size W2) (.cells #[.slice uo dl co,.int .i64 (vol : Int),.slice uv fl cv] 28);have HVP:=hide (vb_new W2 28 [.slice uo dl co,.int .i64 (vol : Int),.slice uv fl cv] _ rfl)
 have HO2 : Hid ((#[.slice uo dl co,.int .i64 (vol : Int),.slice uv fl cv] : Array Value).all (·.oneCell') = true):=hide (by simp [Value.oneCell'])
 have HI2:=hide info28;have HR2:=hide (((zu HR1).bel hb2).bel hbP);have HB2:=hide (bc (bc (zu HB) hb2) hbP)
 have HC2 : Hid (∀ (i : Nat) (f : Fc),L[i]? = some f → ∃ gq,uv = some ⟨gq,0,none⟩ ∧ ∀ (j : Nat) (x : Value),(fcc f)[j]? = some x → (W2.alloc (.cells #[.slice uo dl co,.int .i64 (vol : Int),.slice uv fl cv] 28)).cell? ⟨gq,i * 10 + j,none⟩ = some x):=hide (fun i f hi => by
  obtain ⟨gq,e,h⟩:=hcells i f hi
  exact ⟨gq,e,fun j x hj => keep1 hbP (h j x hj)⟩)
 have p2:=(zu HVP).cell (m:=2) rfl;clear hcells hfr hb2 hbP hL hfl hvol
 go_wp2_with (refine wpl_putNew rfl 28 _ _ rfl W2 _ #[.slice uo dl co,.int .i64 (vol : Int),.slice uv fl cv] 28 rfl rfl (zu HI2) rfl (zu HO2) ?_)
 generalize W2.alloc (.cells #[.slice uo dl co,.int .i64 (vol : Int),.slice uv fl cv] 28) = W3 at *
 go_loopw [14] (fun s W => ∃ i : Nat,s = .int .i64 (i : Int) ∧ i ≤ fl ∧ (∀ (j : Nat) (f : Fc),j < i → L[j]? = some f → ¬ (f.nm = nm ∧ (f.sd : Int) = side)) ∧ W = W3) (fun s _ => fl - (intOf s).toNat)
 case atStart => exact ⟨0,rfl,Nat.zero_le _,fun j f h => absurd h (Nat.not_lt_zero _),rfl⟩
 case round =>
  obtain ⟨i,rfl,hi,hall,hw⟩:=hrel;subst hw;have HALL:=hide hall;clear hall
  by_cases h : i < fl
  ·have i1 : (i : Int) < (fl : Int):=by omega
   have i0 : (0 : Int) ≤ (i : Int):=Int.natCast_nonneg _;have iz : decide ((i : Int) < (fl : Int)) = true:=dt i1;have wi : IntKind.i64.wrap ((i : Int) + 1) = ((i + 1 : Nat) : Int):=(wrap_i (by omega) (by omega)).trans (by simp);obtain ⟨f,hx⟩:=get_some (zu HFL) h;obtain ⟨gq,rfl,hc⟩:=zu HC2 i f hx;have HX:=hide hx;have hcc : ∀ (j : Nat) (x : Value),(fcc f)[j]? = some x → wr.cell? ⟨gq,i * 10 + j,none⟩ = some x:=hc;obtain ⟨fn,fsd,fq⟩:=f
   have hcc2 : ∀ (j : Nat) (x : Value),(rFc fn (fsd : Int) (fq.length : Int) ((pcsL fq : Nat) : Int) (hul fq).x0 (hul fq).y0 (hul fq).z0 (hul fq).x1 (hul fq).y1 (hul fq).z1)[j]? = some x → wr.cell? ⟨gq,i * 10 + j,none⟩ = some x:=hcc;have HYS:=hide (fcs_yes (fs:=fs) (D:=D') (f:=⟨fn,fsd,fq⟩) (by rw [zu HLL];exact List.mem_of_getElem? (zu HX)))
   obtain ⟨ar,har⟩ : ∃ k,fq.length = k:=⟨_,rfl⟩
   obtain ⟨pq,hpq⟩ : ∃ k,pcsL fq = k:=⟨_,rfl⟩
   obtain ⟨⟨b0,b1,b2,b3,b4,b5⟩,hhq⟩ : ∃ b,hul fq = b:=⟨_,rfl⟩
   rw [har,hpq,hhq] at hcc2;have HAR:=hide har;have HPQ:=hide hpq;have HHQ:=hide hhq;have k0 : wr.cell? ⟨gq,i * 10,none⟩ = some (.string fn):=hcc2 0 _ rfl;have k1:=hcc2 1 _ rfl;have k2:=hcc2 2 _ rfl;have k3:=hcc2 3 _ rfl;have k4:=hcc2 4 _ rfl;have k5:=hcc2 5 _ rfl;have k6:=hcc2 6 _ rfl;have k7:=hcc2 7 _ rfl;have k8:=hcc2 8 _ rfl;have k9:=hcc2 9 _ rfl;have HO3:=hide (rFc_one fn (fsd : Int) (ar : Int) (pq : Int) b0 b1 b2 b3 b4 b5);clear hx hc hcc hcc2 har hpq hhq
   by_cases hq : fn = nm
   ·have hq' : (fn.toList == nm.toList) = true:=by rw [hq];simp
    by_cases hd : (fsd : Int) = side
    ·have hd' : ((fsd : Int) == side) = true:=by simpa using hd
     have HE:=hide (zu HAN 0 (fcN fn (fsd : Int) (ar : Int) (pq : Int) ⟨b0,b1,b2,b3,b4,b5⟩) (by
      obtain ⟨y1,y2⟩:=zu HYS;simp only at y1 y2;rw [← hq,← hd];rw [← y1] at y2 ⊢
      exact .inr ⟨y2,rfl,by rw [zu HAR,zu HPQ,zu HHQ]⟩))
     clear hq hd
     go_wp2_with (refine wpl_storeRow rfl 43 _ _ rfl w.heap.size (rFc fn (fsd : Int) (ar : Int) (pq : Int) b0 b1 b2 b3 b4 b5) rfl rfl 43 _ (zu HR2) (zu HI) rfl (zu HO3) ?_)
     have h4:=vb_row (zu HR2) (rFc fn (fsd : Int) (ar : Int) (pq : Int) b0 b1 b2 b3 b4 b5);have z0:=h4.cell (m:=0) rfl;have z1:=h4.cell (m:=1) rfl;have z2:=h4.cell (m:=2) rfl;have z3:=h4.cell (m:=3) rfl;have z4:=h4.cell (m:=4) rfl;have z5:=h4.cell (m:=5) rfl;have z6:=h4.cell (m:=6) rfl;have z7:=h4.cell (m:=7) rfl;have z8:=h4.cell (m:=8) rfl;have z9:=h4.cell (m:=9) rfl;have HB9:=hide (bel_row (zu HB2) (Nat.le_refl _) (rFc fn (fsd : Int) (ar : Int) (pq : Int) b0 b1 b2 b3 b4 b5).toArray);clear h4
     refine bodyPost_ret (v:=.tuple #[fcN fn (fsd : Int) (ar : Int) (pq : Int) ⟨b0,b1,b2,b3,b4,b5⟩,.int .i64 0]) (by simp [results,Tryz.results23,go_sem,fcN,z0,z1,z2,z3,z4,z5,z6,z7,z8,z9];done) rfl ?_;exact ⟨⟨_,0,rfl,zu HE⟩,zu HB9⟩
    ·have hd' : ((fsd : Int) == side) = false:=by simpa using hd
     have HNE:=hide (show ¬ (fn = nm ∧ (fsd : Int) = side) from fun e => hd e.2);clear hq hd;go_wp2_with fail;go_roundw
     case rel =>
      refine ⟨i + 1,rfl,h,fun j f hj hf => ?_,by first | rfl | trivial⟩
      by_cases e : j = i
      ·subst e
       rw [zu HX] at hf
       cases hf
       exact zu HNE
      ·exact zu HALL j f (by omega) hf
     case measure => simp only [intOf];omega
   ·have hq' : (fn.toList == nm.toList) = false:=by
     rw [Bool.eq_false_iff];intro e;exact hq (sEq_iff.1 e)
    have HNE:=hide (show ¬ (fn = nm ∧ (fsd : Int) = side) from fun e => hq e.1);clear hq;go_wp2_with fail;go_roundw
    case rel =>
     refine ⟨i + 1,rfl,h,fun j f hj hf => ?_,by first | rfl | trivial⟩
     by_cases e : j = i
     ·subst e
      rw [zu HX] at hf
      cases hf
      exact zu HNE
     ·exact zu HALL j f (by omega) hf
    case measure => simp only [intOf];omega
  ·obtain rfl : fl = i:=by omega
   have iz : decide ((fl : Int) < (fl : Int)) = false:=df (by omega)
   have HE:=hide (zu HAN 8 (fcN ⟨#[]⟩ 0 0 0 bx0) (.inl ⟨fcs_no (zu HOK) (fun f hf => by
    rw [zu HLL] at hf;obtain ⟨j,hj,rfl⟩:=List.getElem_of_mem hf
    exact zu HALL j _ (by rw [← zu HFL];exact hj) (List.getElem?_eq_getElem hj)),rfl,rfl⟩))
   go_wp2_with (refine wpl_storeRow rfl 43 _ _ rfl w.heap.size (rFc ⟨#[]⟩ 0 0 0 0 0 0 0 0 0) rfl rfl 43 _ (zu HR2) (zu HI) rfl (zu HO) ?_)
   have h4:=vb_row (zu HR2) (rFc ⟨#[]⟩ 0 0 0 0 0 0 0 0 0);have z0:=h4.cell (m:=0) rfl;have z1:=h4.cell (m:=1) rfl;have z2:=h4.cell (m:=2) rfl;have z3:=h4.cell (m:=3) rfl;have z4:=h4.cell (m:=4) rfl;have z5:=h4.cell (m:=5) rfl;have z6:=h4.cell (m:=6) rfl;have z7:=h4.cell (m:=7) rfl;have z8:=h4.cell (m:=8) rfl;have z9:=h4.cell (m:=9) rfl;have HB9:=hide (bel_row (zu HB2) (Nat.le_refl _) (rFc ⟨#[]⟩ 0 0 0 0 0 0 0 0 0).toArray);clear h4
   refine bodyPost_ret (v:=.tuple #[fcN ⟨#[]⟩ 0 0 0 bx0,.int .i64 8]) (by simp [results,Tryz.results23,go_sem,fcN,bx0,z0,z1,z2,z3,z4,z5,z6,z7,z8,z9];done) rfl ?_;exact ⟨⟨_,8,rfl,zu HE⟩,zu HB9⟩
end Go.Proofs.YtkiplmabjeadgaaGreat
