/- The model's part. -/
import Derived.Test.YtkiplmabjeadgaaGreatBpU6R
import Derived.Test.YtkiplmabjeadgaaGreatStOpenR
import Derived.Test.YtkiplmabjeadgaaGreatBdF9R
namespace Go.Proofs.YtkiplmabjeadgaaGreat
set_option maxRecDepth 100000
set_option maxHeartbeats 16000000
open Go.ChangeShapes Go.WideShapes Go.ChangeAt Go.RowKit
set_option linter.unusedVariables false
set_option linter.unusedSimpArgs false
theorem info43 : (Tryz.prog.info? 43).map (fun i => (i.zero,i.size,i.bytes)) = some (some (.agg #[.string ⟨#[]⟩,.int .i64 0,.int .i64 0,.int .i64 0,.int .i64 0,.int .i64 0,.int .i64 0,.int .i64 0,.int .i64 0,.int .i64 0]),10,88):=by kernel_rfl
theorem info28 : (Tryz.prog.info? 28).map (·.size) = some 3:=by kernel_rfl
theorem row_neM (W : World) {g g' : Nat} (cs : Array Value) (h : g ≠ g') : (W.setRow g' cs).heap[g]? = W.heap[g]?:=by
 show (W.heap.modify g' _)[g]? = _
 rw [Array.getElem?_modify,if_neg (fun e => h e.symm)]
def PaAns (fs : List Ft) (D : Bd) (vo : Value) (w : World) (e : Ending) (w' : World) : Prop :=
 (∃ vf,e = .returned (.agg #[vo,.int .i64 (volN D.cs 13824 : Int),vf]) ∧ w'.ownsRow w.heap.size 43 10 vf (fcs fs D).length (flatG fcc (fcs fs D))) ∧ Below w.heap.size w w'
theorem told_own {w : World} {B : Nat} {u : Option Addr} {p po n cu : Nat} {fs : List Ft} {g gf gb : Nat} {ud : Option Addr} {cd : Nat} {uo : Option Addr} {co : Nat} {D : Bd} (hF : Fine fs) (hl : fs.length = n) (hu : SlG ftc 15 w u p po fs) (hok : Okd fs D) (hnd : D.done.length ≤ 900) (hm : Mdm w B u n cu fs g gf gb ud cd uo co D) :
  Calls Tryz.prog 79 #[.pointer (some ⟨g,0,none⟩)] w fun e w' => (∃ r,e = .returned r ∧ w'.ownsRow w.heap.size 183 8 r (tlds fs D).length (flatG sqc (tlds fs D))) ∧ Below w.heap.size w w':=by
 obtain ⟨pd,hpd⟩:=own_slG natc_len hm.dn rfl;refine (toldM_any g gf gb u p po n cu fs ud pd 0 _ cd D.done (.slice uo D.done.length co) 13824 13824 D.cs w hm.blk hm.cs hl (by have:=hF.len;omega) hu (fun f hf h3 => ?_) rfl hpd (fun d hd => by have:=hok.lt d hd;omega) (by omega) hok.iv.le (fun k hk hf => (hok.iv.on k hk hf).1)).mono ?_
 ·obtain ⟨k,_,hk,_⟩:=hF.of_ hf h3
  exact ⟨k,hk⟩
 ·rintro e w' ⟨⟨v,rfl,hv⟩,hb⟩
  refine ⟨⟨v,rfl,?_⟩,hb⟩;unfold tlds;rw [List.length_map] at hv ⊢;exact hv
theorem fcc_one (f : Fc) : ∀ v ∈ fcc f,v.oneCell' = true:=by
 intro v hv;unfold fcc at hv;simp only [List.mem_cons,List.not_mem_nil,or_false] at hv
 rcases hv with rfl | rfl | rfl | rfl | rfl | rfl | rfl | rfl | rfl | rfl <;> rfl
theorem partM_any {w : World} {B : Nat} {u : Option Addr} {p po n cu : Nat} {fs : List Ft} {g gf gb : Nat} {ud : Option Addr} {cd : Nat} {uo : Option Addr} {co : Nat} {D : Bd} (hF : Fine fs) (hl : fs.length = n) (hu : SlG ftc 15 w u p po fs) (hok : Okd fs D) (hnd : D.done.length ≤ 30) (hm : Mdm w B u n cu fs g gf gb ud cd uo co D) :
  Calls Tryz.prog 45 #[.pointer (some ⟨g,0,none⟩)] w (PaAns fs D (.slice uo D.done.length co) w):=by
 obtain ⟨iF,hf,hf0,hf1,hf2⟩:=info_parts info43;have HTL:=hide (fun W (h : Below w.heap.size w W) => told_own (w:=W) hF hl (hu.bel h) hok (by omega) (hm.bel h))
 have HSO:=hide (fun W (h : Below w.heap.size w W) => by
  have h1 : SRow W B (.slice uo D.done.length co) (onm fs D.done):=by unfold SRow;rw [onm_len];exact own_bel hm.od h
  exact sortM_any uo D.done.length co (onm fs D.done) W (onm_len _ _) (by omega) h1.stAt.2)
 have HM:=hide (fun W (h : Below w.heap.size w W) => hm.bel h);have HOK:=hide hok;have HTN:=hide (tlds_len fs D);have HTB:=hide (tlds_S fs D)
 obtain ⟨dl,hdl⟩ : ∃ k,D.done.length = k:=⟨_,rfl⟩
 rw [hdl] at hnd HSO ⊢;have HDL:=hide hdl;have HND:=hide hnd;have HP0:=hide (vb_new (w.alloc (.cells #[.slice none 0 0,.int .i64 0,.slice none 0 0] 28)) 28 [.slice uo dl co,.int .i64 0,.slice none 0 0] _ rfl);have HR0:=hide ((vb_new w 28 [.slice none 0 0,.int .i64 0,.slice none 0 0] _ rfl).bel (ba (bfl _ _) (.cells #[.slice uo dl co,.int .i64 0,.slice none 0 0] 28)));have HB0:=hide (ba (ba (bfl w.heap.size w) (.cells #[.slice none 0 0,.int .i64 0,.slice none 0 0] 28)) (.cells #[.slice uo dl co,.int .i64 0,.slice none 0 0] 28))
 have m0:=(zu HM _ (ba (bfl w.heap.size w) (.cells #[.slice none 0 0,.int .i64 0,.slice none 0 0] 28))).blk.cell (m:=4) rfl;rw [hdl] at m0;clear hF hl hu hok hm hdl;go_enter Tryz.func45,Tryz.ntmps45;go_wp2_with fail;simp only [World.size_alloc] at HP0
 go_loopw [4] (fun s W => ∃ i : Nat,s = .int .i64 (i : Int) ∧ i ≤ 13824 ∧ vb W (w.heap.size + 1) 28 [.slice uo dl co,.int .i64 (volN D.cs i : Int),.slice none 0 0] ∧ vb W w.heap.size 28 [.slice none 0 0,.int .i64 0,.slice none 0 0] ∧ Below w.heap.size w W) (fun s _ => 13824 - (intOf s).toNat)
 case atStart => exact ⟨0,rfl,Nat.zero_le _,zu HP0,zu HR0,zu HB0⟩
 case round =>
  obtain ⟨i,rfl,hi,hp,hr,hb⟩:=hrel;rename World => W1
  have HP:=hide hp;have HR:=hide hr;have HB:=hide hb;have hmd:=zu HM _ hb;have q2:=hmd.blk.cell (m:=2) rfl;clear hp hr hb HP0 HR0 HB0
  by_cases h : i < 13824
  ·have i1 : (i : Int) < 13824:=by omega
   have i0 : (0 : Int) ≤ (i : Int):=Int.natCast_nonneg _;have iz : decide ((i : Int) < 13824) = true:=dt i1;have wi : IntKind.i64.wrap ((i : Int) + 1) = ((i + 1 : Nat) : Int):=(wrap_i (by omega) (by omega)).trans (by simp);have qf:=hmd.cs.f.cell (fnL_at _ h);have HVS:=hide (volN_succ D.cs i);have hvl:=volN_le D.cs i
   obtain ⟨vn,hvn⟩ : ∃ k,volN D.cs i = k:=⟨_,rfl⟩
   rw [hvn] at HP HVS hvl;have wv : IntKind.i64.wrap ((vn : Int) + 1) = ((vn + 1 : Nat) : Int):=(wrap_i (by omega) (by omega)).trans (by simp);generalize D.cs.full i = b at qf HVS;clear hmd hvn hvl
   cases b with
   | false =>
    have HVT:=hide (show volN D.cs (i + 1) = vn by have:=zu HVS;simpa using this);go_wp2_with fail;go_roundw
    case rel => exact ⟨i + 1,rfl,h,by rw [zu HVT];exact zu HP,zu HR,zu HB⟩
    case measure => simp only [intOf];omega
   | true =>
    have HVT:=hide (show volN D.cs (i + 1) = vn + 1 by have:=zu HVS;simpa using this);have p1:=(zu HP).cell (m:=1) rfl;have fz:=(zu HP).frozen;go_wp2_with fail;go_roundw
    case rel => exact ⟨i + 1,rfl,h,by rw [zu HVT];exact (zu HP).set 1 _,(zu HR).ne (by omega),Below.setCell (zu HB) (by show w.heap.size ≤ w.heap.size + 1;omega) _⟩
    case measure => simp only [intOf];omega
  ·obtain rfl : i = 13824:=by omega
   have iz : decide (((13824 : Nat) : Int) < 13824) = false:=df (by omega);have HTO:=hide (zu HTL _ (zu HB))
   obtain ⟨vol,hvol⟩ : ∃ k,volN D.cs 13824 = k:=⟨_,rfl⟩
   rw [hvol] at HP;have HVL:=hide hvol;clear hmd hvol;go_wp2_with fail;refine (zu HTO).mono ?_;rintro e W2 ⟨⟨r,rfl,htl⟩,hb2⟩;have HB2:=hide (bc (zu HB) hb2);have HP2:=hide ((zu HP).bel hb2);have HR2:=hide ((zu HR).bel hb2);have HT2:=hide htl;have q4:=(zu HM _ (zu HB2)).blk.cell (m:=4) rfl;rw [zu HDL] at q4;have HSO2:=hide (zu HSO _ (zu HB2));clear htl hb2 HTO;go_wp2_with fail;refine (zu HSO2).mono ?_;rintro e W3 ⟨v,rfl,hsr,hb3⟩;have HB3:=hide (bc (zu HB2) hb3);have HP3:=hide ((zu HP2).bel hb3);have HR3:=hide ((zu HR2).bel hb3);have HT3:=hide (own_bel (zu HT2) hb3)
   have HNR:=hide hsr;obtain ⟨un,cn,rfl,_⟩:=own_form hsr;have hns:=foldl_ins_len (onm fs D.done) [];rw [onm_len,zu HDL] at hns
   obtain ⟨ns,hnsq⟩ : ∃ l,srt (onm fs D.done) = l:=⟨_,rfl⟩
   have HNS:=hide hnsq;have hnl : ns.length ≤ 30:=by rw [← hnsq];unfold srt;simp at hns;omega
   rw [hnsq] at HNR ⊢
   obtain ⟨m,hmq⟩ : ∃ k,ns.length = k:=⟨_,rfl⟩
   have HNR' : Hid (W3.ownsRow W2.heap.size 9 1 (.slice un m cn) m (strs ns)):=hide (by have:=zu HNR;unfold SRow at this;rw [hmq] at this;exact this);rw [hmq] at hnl ⊢;have HMQ:=hide hmq;have hsz3 : w.heap.size + 2 ≤ W3.heap.size:=by have h1:=(zu HP3).lt;omega
   have hsz2 : w.heap.size + 2 ≤ W2.heap.size:=by have h1:=(zu HP2).lt;omega
   have hsz1 : w.heap.size + 2 ≤ W1.heap.size:=by have h1:=(zu HP).lt;omega
   clear hsr hb3 hns hnsq hmq HSO2 HNR HP2 HR2 HT2 q4 q2;go_wp2_with fail
   go_loopw [7] (fun s W => ∃ (i : Nat) (vf : Value),s = .int .i64 (i : Int) ∧ i ≤ m ∧ Th (w.heap.size + 1) (w.heap.size + 1) (w.heap.size + 1) W3.heap.size W3 W ∧ vb W (w.heap.size + 1) 28 [.slice uo dl co,.int .i64 (vol : Int),vf] ∧ W.ownsRow W3.heap.size 43 10 vf (fcsL fs D (ns.take i)).length (flatG fcc (fcsL fs D (ns.take i)))) (fun s _ => m - (intOf s).toNat)
   case atStart => exact ⟨0,.slice none 0 0,rfl,Nat.zero_le _,Th.refl _ _ _ _ _,zu HP3,own_nil _ _ _ _⟩
   case round =>
    clear HP3;obtain ⟨i,vf,rfl,him,hth,hp,hfr⟩:=hrel;rename World => W4
    have HTH:=hide hth;have HP:=hide hp;have HFR:=hide hfr;have HB4:=hide ((zu HB3).trans (hth.below (C:=w.heap.size) (by omega) (by omega) (by omega) (by omega)));have HS4:=hide hth.size;clear hth hp hfr
    by_cases h : i < m
    ·have i1 : (i : Int) < (m : Int):=by omega
     have i0 : (0 : Int) ≤ (i : Int):=Int.natCast_nonneg _;have iz : decide ((i : Int) < (m : Int)) = true:=dt i1;have wi : IntKind.i64.wrap ((i : Int) + 1) = ((i + 1 : Nat) : Int):=(wrap_i (by omega) (by omega)).trans (by simp);obtain ⟨nm,hnm⟩:=get_some (zu HMQ) h
     have hz9 : ∃ gn,un = some ⟨gn,0,none⟩ ∧ W2.heap.size ≤ gn ∧ gn < W3.heap.size ∧ ∀ (j : Nat) (x : Value),(strs ns)[j]? = some x → W3.cell? ⟨gn,j,none⟩ = some x:=by
      obtain ⟨uz,cz,ez,_,_,hz⟩:=own_form (zu HNR');obtain ⟨gn,e1,h1,h2,h3⟩:=hz (by omega)
      injection ez with ez1
      exact ⟨gn,ez1.trans e1,h1,h2,h3⟩
     obtain ⟨gn,rfl,hgn,hgnl,hqc⟩:=hz9
     have HNC : Hid (∀ W,Th (w.heap.size + 1) (w.heap.size + 1) (w.heap.size + 1) W3.heap.size W3 W → W.cell? ⟨gn,i,none⟩ = some (.string nm)):=hide (fun W hW => by
      have h1:=hqc i (.string nm) (strs_at hnm);have h2:=hW.block gn hgnl (by omega) (by omega) (by omega);unfold World.cell? at h1 ⊢;simp only at h1 ⊢;rw [h2]
      exact h1)
     have HFT:=hide (fcsL_take (fs:=fs) (D:=D) hnm);have HNM:=hide hnm;have hsz4:=zu HS4;clear hqc hnm;go_wp2_with fail
     go_loopw [8,9] (fun v s W => ∃ k : Nat,s = .int .i64 (k : Int) ∧ k ≤ dl ∧ v = .int .i64 (byL fs D.done nm k : Int) ∧ Below W4.heap.size W4 W) (fun _ s _ => dl - (intOf s).toNat)
     case atStart => exact ⟨0,rfl,Nat.zero_le _,rfl,bfl _ _⟩
     case round =>
      obtain ⟨k,rfl,hk,rfl,hb5⟩:=hrel;rename World => W5
      have HB5:=hide hb5;have hmd:=zu HM _ (bc (zu HB4) hb5);have HGC:=hide (hmd.blk.cell (m:=4) rfl);rw [zu HDL] at HGC;have q4:=zu HGC;clear hb5
      by_cases h2 : k < dl
      ·have j1 : (k : Int) < (dl : Int):=by omega
       have j0 : (0 : Int) ≤ (k : Int):=Int.natCast_nonneg _;have jz : decide ((k : Int) < (dl : Int)) = true:=dt j1;have wk : IntKind.i64.wrap ((k : Int) + 1) = ((k + 1 : Nat) : Int):=(wrap_i (by omega) (by omega)).trans (by simp);have hod:=hmd.od;rw [zu HDL] at hod;obtain ⟨uy,cy,ey,_,_,hy⟩:=own_form hod
       injection ey with ey1 ey2 ey3
       have ey1':=ey1.symm;subst ey1';obtain ⟨gd,rfl,hgd,hgdl,hyc⟩:=hy (by omega);obtain ⟨d,hd⟩:=get_some (zu HDL) h2;have HDC:=hide (hyc k _ (onm_at hd));have hstep:=byL_step fs D.done nm k;rw [show D.done.getD k 0 = d by rw [List.getD_eq_getElem?_getD,hd];rfl] at hstep;have HNC5:=hide ((keep1 (zu HB5) (b:=gn) (o:=i) (zu HNC _ (zu HTH))))
       obtain ⟨sa,hsa⟩ : ∃ s,(fs.getD d ft0).nm = s:=⟨_,rfl⟩
       rw [hsa] at HDC hstep
       obtain ⟨qb,hqb⟩ : ∃ q,(sa.toList == nm.toList) = q:=⟨_,rfl⟩
       have HQB:=hide hqb;have HST:=hide hstep;clear hod hy hyc hd hstep hsa hqb hmd
       go_upto_region 16 with fail
       refine Go.Code.wp_mono (Only.to (fun _ _ h => h)) (pa16 HQB HGC HDC HNC5 (hide h2) (hide h) ?_);intro W6 hb6;have HB6:=hide (bc (zu HB5) hb6);clear hb6
       cases qb with
       | false =>
        have HS9:=hide (show byL fs D.done nm (k + 1) = byL fs D.done nm k by
         have h9 : sEq sa nm = false:=zu HQB;rw [zu HST,h9]
         rfl)
        go_wp2_with fail;go_roundw
        case rel => exact ⟨k + 1,rfl,h2,by rw [zu HS9],zu HB6⟩
        case measure => simp only [intOf];omega
       | true =>
        have HS9:=hide (show byL fs D.done nm (k + 1) = k + 1 by
         have h9 : sEq sa nm = true:=zu HQB;rw [zu HST,h9]
         rfl)
        go_wp2_with fail;go_roundw
        case rel => exact ⟨k + 1,rfl,h2,by rw [zu HS9];rfl,zu HB6⟩
        case measure => simp only [intOf];omega
      ·obtain rfl : dl = k:=by omega
       have jz : decide ((dl : Int) < (dl : Int)) = false:=df (by omega)
       obtain ⟨nb,hnb⟩ : ∃ q,byL fs D.done nm dl = q:=⟨_,rfl⟩
       have HNB:=hide (show byOf fs D.done nm = nb by unfold byOf;rw [zu HDL];exact hnb);rw [hnb];have HTH5:=hide ((zu HTH).trans (Th.of_bel ((zu HB5).mono (zu HS4))));have HP5:=hide ((zu HP).bel (zu HB5));have HFR5:=hide (own_bel (zu HFR) (zu HB5));clear hnb hmd HGC;go_wp2_with fail
       go_loopw [10] (fun s W => ∃ (t : Nat) (vf : Value),s = .int .i64 ((t : Int) + 1) ∧ t ≤ 6 ∧ Th (w.heap.size + 1) (w.heap.size + 1) (w.heap.size + 1) W3.heap.size W3 W ∧ vb W (w.heap.size + 1) 28 [.slice uo dl co,.int .i64 (vol : Int),vf] ∧ W.ownsRow W3.heap.size 43 10 vf (fcsL fs D (ns.take i) ++ fcsN fs D nm t).length (flatG fcc (fcsL fs D (ns.take i) ++ fcsN fs D nm t))) (fun s _ => 7 - (intOf s).toNat)
       case atStart => exact ⟨0,vf,rfl,Nat.zero_le _,zu HTH5,zu HP5,by rw [show fcsN fs D nm 0 = [] from rfl,List.append_nil];exact zu HFR5⟩
       case round =>
        clear HTH5 HP5 HFR5;obtain ⟨t,vf,rfl,ht,hth,hp,hfr⟩:=hrel;rename World => W6
        have HTH6:=hide hth;have HP6:=hide hp;have HFR6:=hide hfr;have HT6:=hide (own_kept (zu HT3) (w':=W6) (fun q hq => hth.block q (own_ge (zu HT3) q hq).2 (by have:=(own_ge (zu HT3) q hq).1;omega) (by have:=(own_ge (zu HT3) q hq).1;omega) (by have:=(own_ge (zu HT3) q hq).1;omega)));have HS6:=hide hth.size;clear hth hp hfr
        by_cases h3 : t < 6
        ·have t1 : (t : Int) + 1 ≤ 6:=by omega
         have tz : decide ((t : Int) + 1 ≤ 6) = true:=dt t1;have wt : IntKind.i64.wrap ((t : Int) + 1 + 1) = ((t : Int) + 1) + 1:=(wrap_i (by omega) (by omega)).trans (by simp);have HFA:=hide (face_tls (L:=tlds fs D) (W:=W6) ⟨W6,own_mono (zu HT6) (Nat.zero_le _),bfl _ _⟩ nb (t + 1) (zu HTN) (zu HTB))
         obtain ⟨lf,hlf⟩ : ∃ l,ofO (tlds fs D) nb (t + 1) = l:=⟨_,rfl⟩
         rw [hlf] at HFA
         have hll : lf.length ≤ 100000:=by
          rw [← hlf];exact Nat.le_trans (ofO_len_le _ _ _) (zu HTN)
         have HFS0:=hide (show lf = [] → fcsN fs D nm (t + 1) = fcsN fs D nm t from fun h => fcsN_nil (by rw [zu HNB,hlf];exact h))
         have HFS1:=hide (show lf ≠ [] → fcsN fs D nm (t + 1) = fcsN fs D nm t ++ [⟨nm,t + 1,lf⟩] from fun h => by
          have:=fcsN_cons (fs:=fs) (D:=D) (s:=nm) (n:=t) (by rw [zu HNB,hlf];exact h);rw [zu HNB,hlf] at this
          exact this)
         have HFE:=hide (show (lf ≠ [] → fcc ⟨nm,t + 1,lf⟩ = [.string nm,.int .i64 ((t : Int) + 1),.int .i64 (lf.length : Int),.int .i64 ((pcsL lf : Nat) : Int),.int .i64 (hul lf).x0,.int .i64 (hul lf).y0,.int .i64 (hul lf).z0,.int .i64 (hul lf).x1,.int .i64 (hul lf).y1,.int .i64 (hul lf).z1]) from fun _ => rfl);have HFO:=hide (fcc_one ⟨nm,t + 1,lf⟩)
         obtain ⟨hq,hhq⟩ : ∃ b,hul lf = b:=⟨_,rfl⟩
         obtain ⟨pq,hpq⟩ : ∃ b,pcsL lf = b:=⟨_,rfl⟩
         obtain ⟨ar,har⟩ : ∃ b,lf.length = b:=⟨_,rfl⟩
         have HAR:=hide har;rw [hhq,hpq,har] at HFA HFE;obtain ⟨b0,b1,b2,b3,b4,b5⟩:=hq
         have HIF:=hide (show (Tryz.prog.info? 43).map (·.size) = some 10 by rw [hf];simp [hf1])
         unfold fcV at HFA;rw [show ((t + 1 : Nat) : Int) = (t : Int) + 1 from rfl] at HFA;simp only at HFA HFE;rw [har] at hll;have HNC6:=hide (fun W hW => zu HNC W hW);clear hlf hhq hpq har;go_wp2_with fail;refine (zu HFA).mono ?_;rintro e W7 ⟨rfl,hb7⟩;have HTH7:=hide ((zu HTH6).trans (Th.of_bel (hb7.mono (zu HS6))));have HP7:=hide ((zu HP6).bel hb7);have HFR7:=hide (own_bel (zu HFR6) hb7);have HS7:=hide (Nat.le_trans (zu HS6) hb7.size)
         have HO7 : Hid ((#[.string ⟨#[]⟩,.int .i64 ((t : Int) + 1),.int .i64 (ar : Int),.int .i64 (pq : Int),.int .i64 b0,.int .i64 b1,.int .i64 b2,.int .i64 b3,.int .i64 b4,.int .i64 b5] : Array Value).all (·.oneCell') = true):=hide (by simp [Value.oneCell'])
         have hbF:=ba (bfl W7.heap.size W7) (.cells #[.string ⟨#[]⟩,.int .i64 ((t : Int) + 1),.int .i64 (ar : Int),.int .i64 (pq : Int),.int .i64 b0,.int .i64 b1,.int .i64 b2,.int .i64 b3,.int .i64 b4,.int .i64 b5] 43);have HV8:=hide (vb_new W7 43 [.string ⟨#[]⟩,.int .i64 ((t : Int) + 1),.int .i64 (ar : Int),.int .i64 (pq : Int),.int .i64 b0,.int .i64 b1,.int .i64 b2,.int .i64 b3,.int .i64 b4,.int .i64 b5] _ rfl);have HTH8:=hide ((zu HTH7).trans (Th.of_bel (hbF.mono (zu HS7))));have HP8:=hide ((zu HP7).bel hbF);have HFR8:=hide (own_bel (zu HFR7) hbF)
         have hbG:=ba (bfl W7.heap.size W7) (.cells #[.string nm,.int .i64 ((t : Int) + 1),.int .i64 (ar : Int),.int .i64 (pq : Int),.int .i64 b0,.int .i64 b1,.int .i64 b2,.int .i64 b3,.int .i64 b4,.int .i64 b5] 43);have HV9:=hide (vb_new W7 43 [.string nm,.int .i64 ((t : Int) + 1),.int .i64 (ar : Int),.int .i64 (pq : Int),.int .i64 b0,.int .i64 b1,.int .i64 b2,.int .i64 b3,.int .i64 b4,.int .i64 b5] _ rfl);have HTH9:=hide ((zu HTH7).trans (Th.of_bel (hbG.mono (zu HS7))));have HP9:=hide ((zu HP7).bel hbG);have HFR9:=hide (own_bel (zu HFR7) hbG)
         have HS9:=hide (Nat.le_trans (zu HS7) hbG.size);clear hb7 hbF hbG HFA HT6 HP7 HFR7 HTH7
         by_cases h0 : ar = 0
         ·have z0 : decide ((0 : Int) < (ar : Int)) = false:=df (by omega)
          have z0' : decide (0 < ar) = false:=df (by omega);have hln : lf = []:=List.eq_nil_of_length_eq_zero ((zu HAR).trans h0);have HF9:=hide (zu HFS0 hln);have v2:=(zu HV8).cell (m:=2) rfl;clear hln h0
          go_wp2_with (refine wpl_putNew rfl 43 _ _ rfl W7 _ #[.string ⟨#[]⟩,.int .i64 ((t : Int) + 1),.int .i64 (ar : Int),.int .i64 (pq : Int),.int .i64 b0,.int .i64 b1,.int .i64 b2,.int .i64 b3,.int .i64 b4,.int .i64 b5] 43 rfl rfl (zu HIF) rfl (zu HO7) ?_)
          go_roundw
          case rel => exact ⟨t + 1,vf,rfl,h3,zu HTH8,zu HP8,by rw [zu HF9];exact zu HFR8⟩
          case measure => simp only [intOf];omega
         ·have z0 : decide ((0 : Int) < (ar : Int)) = true:=dt (by omega)
          have z0' : decide (0 < ar) = true:=dt (by omega);have hln : lf ≠ []:=fun e => h0 (by rw [← zu HAR,e];rfl)
          have HF9:=hide (zu HFS1 hln);have HFE9:=hide (zu HFE hln);have v2:=(zu HV8).cell (m:=2) rfl;have vz:=(zu HV8).cell (m:=0) rfl;have fz8:=(zu HV8).frozen;have nc8:=zu HNC6 _ (zu HTH8);have e0:=(zu HV9).cell (m:=0) rfl;have e1:=(zu HV9).cell (m:=1) rfl;have e2:=(zu HV9).cell (m:=2) rfl;have e3:=(zu HV9).cell (m:=3) rfl;have e4:=(zu HV9).cell (m:=4) rfl;have e5:=(zu HV9).cell (m:=5) rfl;have e6:=(zu HV9).cell (m:=6) rfl;have e7:=(zu HV9).cell (m:=7) rfl;have e8:=(zu HV9).cell (m:=8) rfl;have e9:=(zu HV9).cell (m:=9) rfl
          have p2:=(zu HP9).cell (m:=2) rfl
          have HFL9:=hide (show (fcsL fs D (ns.take i) ++ fcsN fs D nm t).length ≤ 1000 by
           have x1:=fcsL_len fs D (ns.take i);have x2:=fcsN_len fs D nm t;rw [List.length_append];rw [List.length_take] at x1
           omega)
          obtain ⟨FL,hFL⟩ : ∃ L,fcsL fs D (ns.take i) ++ fcsN fs D nm t = L:=⟨_,rfl⟩
          rw [hFL] at HFL9 HFR9;have HFQ:=hide hFL;have HAS:=hide (List.append_assoc (fcsL fs D (ns.take i)) (fcsN fs D nm t) [⟨nm,t + 1,lf⟩])
          obtain ⟨fl,hfl⟩ : ∃ k,FL.length = k:=⟨_,rfl⟩
          rw [hfl] at HFL9 HFR9;have HFLN:=hide hfl;rw [zu HFE9] at HFO
          obtain ⟨L9,hL9⟩ : ∃ L,flatG fcc FL = L:=⟨_,rfl⟩
          rw [hL9] at HFR9;have HL9:=hide hL9;clear hFL hfl hL9 h0 hln HFR8 HFR6
          go_wp2_with (first | refine wpl_putNew rfl 43 _ _ rfl W7 _ #[.string ⟨#[]⟩,.int .i64 ((t : Int) + 1),.int .i64 (ar : Int),.int .i64 (pq : Int),.int .i64 b0,.int .i64 b1,.int .i64 b2,.int .i64 b3,.int .i64 b4,.int .i64 b5] 43 rfl rfl (zu HIF) rfl (zu HO7) ?_ | (at_builtin;refine zu ?_))
          refine hide ?_;refine wpList_append_own _ rfl _ _ 26 rfl W3.heap.size 43 iF _ 10 88 Tryz.underlying26 hf hf0 hf1 hf2 rfl (by decide) _ fl L9 rfl (own_bel (zu HFR9) (ba (bfl _ _) _)) _ 1 1 [.string nm,.int .i64 ((t : Int) + 1),.int .i64 (ar : Int),.int .i64 (pq : Int),.int .i64 b0,.int .i64 b1,.int .i64 b2,.int .i64 b3,.int .i64 b4,.int .i64 b5] rfl rfl (by first | exact news_cells _ _ rfl | exact news_cells _ _ (by simp)) (zu HFO) (by unfold maxLen;have:=zu HFL9;omega) (by have:=zu HFL9;omega) (Nat.le_trans (zu HS9) (by simp)) ?_;intro v' w1 hown' hgrow _
          have hbX : Below W3.heap.size (W7.alloc (.cells #[.string nm,.int .i64 ((t : Int) + 1),.int .i64 (ar : Int),.int .i64 (pq : Int),.int .i64 b0,.int .i64 b1,.int .i64 b2,.int .i64 b3,.int .i64 b4,.int .i64 b5] 43)) w1:=Below.grown (Below.alloc (B:=W3.heap.size) (bfl _ _) (zu HS9) _) hgrow (Nat.le_trans (zu HS9) (by simp)) (fun q hq => (own_ge (zu HFR9) q hq).1);have HTH10:=hide ((zu HTH9).trans (Th.of_bel hbX));have HP10:=hide ((zu HP9).below hbX (by omega));obtain ⟨uv,cv,rfl,_⟩:=own_form hown';have HFR10:=hide hown';have p10:=(zu HP10).cell (m:=2) rfl
          have fz10:=(zu HP10).frozen;clear hown' hgrow hbX;go_wp2_with fail;go_roundw
          case rel =>
           refine ⟨t + 1,.slice uv (fl + 1) cv,rfl,h3,(zu HTH10).trans (Th.set _ _ _),(zu HP10).set 2 _,?_⟩;have h9 : fcsL fs D (ns.take i) ++ fcsN fs D nm (t + 1) = FL ++ [⟨nm,t + 1,lf⟩]:=by rw [zu HF9,← zu HAS,zu HFQ]
           rw [h9,List.length_append,List.length_singleton,zu HFLN,flatG_append,zu HL9]
           refine own_kept ?_ (fun q hq => Below.heap_setCell _ _ _ _ (by
            have:=(own_ge (zu HFR10) q hq).1
            show q ≠ w.heap.size + 1
            omega))
           have h8:=zu HFR10;rw [← zu HFE9] at h8
           simpa [flatG] using h8
          case measure => simp only [intOf];omega
        ·obtain rfl : t = 6:=by omega
         have tz : decide (((6 : Nat) : Int) + 1 ≤ 6) = false:=df (by omega);rw [← zu HFT] at HFR6;have wi2 : IntKind.i64.wrap ((i : Int) + 1) = ((i + 1 : Nat) : Int):=(wrap_i (by omega) (by omega)).trans (by simp);go_wp2_with fail;go_roundw
         case rel => exact ⟨i + 1,vf,rfl,h,zu HTH6,zu HP6,zu HFR6⟩
         case measure => simp only [intOf];omega
    ·obtain rfl : m = i:=by omega
     have iz : decide ((m : Int) < (m : Int)) = false:=df (by omega)
     have hfe : fcsL fs D (ns.take m) = fcs fs D:=by
      unfold fcs;rw [zu HNS,List.take_of_length_le (by rw [zu HMQ];exact Nat.le_refl _)]
     rw [hfe] at HFR;obtain ⟨uv,cv,rfl,_⟩:=own_form (zu HFR);have HR4:=hide (show vb W4 w.heap.size 28 [.slice none 0 0,.int .i64 0,.slice none 0 0] from ((zu HTH).block w.heap.size (by omega) (by omega) (by omega) (by omega)).trans (zu HR3));have HI:=hide info28
     obtain ⟨fl,hfl⟩ : ∃ k,(fcs fs D).length = k:=⟨_,rfl⟩
     rw [hfl] at HFR HP;have p0:=(zu HP).cell (m:=0) rfl;have p1:=(zu HP).cell (m:=1) rfl;have p2:=(zu HP).cell (m:=2) rfl;have HO : Hid (∀ v ∈ [Value.slice uo dl co,.int .i64 (vol : Int),.slice uv fl cv],v.oneCell' = true):=hide (by simp [Value.oneCell'])
     have hE : PaAns fs D (.slice uo dl co) w (.returned (.agg #[.slice uo dl co,.int .i64 (vol : Int),.slice uv fl cv])) (W4.setRow w.heap.size [Value.slice uo dl co,.int .i64 (vol : Int),.slice uv fl cv].toArray):=by
      refine ⟨⟨.slice uv fl cv,by rw [zu HVL],?_⟩,bel_row (zu HB4) (Nat.le_refl _) _⟩;rw [hfl]
      refine own_mono (own_kept (zu HFR) (fun q hq => row_neM _ _ (by
       have:=(own_ge (zu HFR) q hq).1
       omega))) (by omega)
     have HE:=hide hE;clear hE hfe hfl
     go_wp2_with (refine wpl_storeRow rfl 28 _ _ rfl w.heap.size [.slice uo dl co,.int .i64 (vol : Int),.slice uv fl cv] rfl rfl 28 _ (zu HR4) (zu HI) rfl (zu HO) ?_)
     have h4:=vb_row (zu HR4) [.slice uo dl co,.int .i64 (vol : Int),.slice uv fl cv];have z0:=h4.cell (m:=0) rfl;have z1:=h4.cell (m:=1) rfl;have z2:=h4.cell (m:=2) rfl;clear h4;refine bodyPost_ret (v:=.agg #[.slice uo dl co,.int .i64 (vol : Int),.slice uv fl cv]) (by simp [results,Tryz.results45,go_sem,z0,z1,z2];done) rfl ?_;exact zu HE
end Go.Proofs.YtkiplmabjeadgaaGreat
