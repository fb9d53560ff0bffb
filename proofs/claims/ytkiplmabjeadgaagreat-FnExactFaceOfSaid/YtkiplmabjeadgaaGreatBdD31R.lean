/- The model's do, whole. -/
import Derived.Test.YtkiplmabjeadgaaGreatStOpenR
import Derived.Test.YtkiplmabjeadgaaGreatBdD5R
import Derived.Deep.RegionLaw
import Derived.Test.YtkiplmabjeadgaaGreatBdD1R
import Derived.Test.YtkiplmabjeadgaaGreatBdD35R
import Derived.Test.YtkiplmabjeadgaaGreatBdF9R
namespace Go.Proofs.YtkiplmabjeadgaaGreat
set_option maxRecDepth 100000
set_option maxHeartbeats 16000000
open Go.ChangeShapes Go.WideShapes Go.ChangeAt Go.RowKit
set_option linter.unusedVariables false
set_option linter.unusedSimpArgs false
theorem do31 {s1 s2 s3 s4 s5 s7 s8 s9 s10 s11 s12 s13 s14 s15 s16 s17 s18 s19 s20 s21 s22 s23 s24 s25 s26 s27 s28 s29 s30 s31 s32 s33 s34 s35 s36 s37 s38 s39 s40 s41 s42 s43 s44 s45 s46 s47 s48 s49 s50 s51 s52 s53 s54 s55 s56 s57 s58 s59 s60 s61 s62 s63 s64 s65 s66 s67 s68 s69 s70 s71 s72 s73 s74 s75 s76 s77 s78 s79 s80 s81 s82 s83 s84 s85 s86 s87 s88 s89 s90 s91 s92 s93 s94 s95 s96 s97 s98 s99 s100 s101 s102 s103 s104 s105 s106 s107 s108 s109 s110 s111 s112 s113 s114 s115 s116 s117 s118 s119 s120 s121 s122 s123 s124 s125 s126 s127 s128 s129 s130 s131 s132 s133 s134 s135 s136 s137 s138 s139 s140 s141 s142 s143 s144 s145 s146 s147 s148 s149 s150 s151 s152 s153 s154 s155 s156 s157 s158 s159 s160 s161 s162 s163 s164 s165 s166 s167 s168 s169 s170 s171 s172 s173 s174 s175 s176 s177 s178 s179 s180 s181 s182 s183 s184 s185 s186 : Value} {g gF gf gb B n cu nd co : Nat} {nm : ByteArray} {u uo : Option Addr} {vd : Value} {dl : List Nat} {ol : List ByteArray} {c : Cs} {V : World} {K_ : Act → World → Prop}
  (HQ : Hid (Mq V B u n cu g gf gb vd (.slice uo nd co) dl ol c)) (HOL : Hid (ol.length = nd)) (HN : Hid (V.cell? ⟨gF,0,none⟩ = some (.string nm))) (hg : g < B) (hgf : gf < B) (hgb : gb < B) (h1 : g ≠ gf) (h2 : g ≠ gb) (hB : B ≤ V.heap.size) (hnd : nd ≤ 900)
  (hQ : ∀ (t163 t164 : Value) (W9 : World),Mq W9 B u n cu g gf gb vd t164 dl (ol ++ [nm]) c → (∀ B' t' k' v' m M,V.ownsRow B' t' k' v' m M → 9 ≠ t' → g < B' → W9.ownsRow B' t' k' v' m M) → Th g gf gb B V W9 → K_ { tmps:=#[.pointer (some ⟨g,0,none⟩),s1,s2,s3,s4,s5,.pointer (some ⟨gF,0,none⟩),s7,s8,s9,s10,s11,s12,s13,s14,s15,s16,s17,s18,s19,s20,s21,s22,s23,s24,s25,s26,s27,s28,s29,s30,s31,s32,s33,s34,s35,s36,s37,s38,s39,s40,s41,s42,s43,s44,s45,s46,s47,s48,s49,s50,s51,s52,s53,s54,s55,s56,s57,s58,s59,s60,s61,s62,s63,s64,s65,s66,s67,s68,s69,s70,s71,s72,s73,s74,s75,s76,s77,s78,s79,s80,s81,s82,s83,s84,s85,s86,s87,s88,s89,s90,s91,s92,s93,s94,s95,s96,s97,s98,s99,s100,s101,s102,s103,s104,s105,s106,s107,s108,s109,s110,s111,s112,s113,s114,s115,s116,s117,s118,s119,s120,s121,s122,s123,s124,s125,s126,s127,s128,s129,s130,s131,s132,s133,s134,s135,s136,s137,s138,s139,s140,s141,s142,s143,s144,s145,s146,s147,s148,s149,s150,s151,s152,s153,s154,s155,.pointer (some ⟨g,0,none⟩),.pointer (some ⟨g,0,none⟩),.pointer (some ⟨g,0,none⟩),.pointer (some ⟨g,4,none⟩),.slice uo nd co,.pointer (some ⟨gF,0,none⟩),.string nm,t163,t164,.pointer (some ⟨g,0,none⟩),.pointer (some ⟨g,4,none⟩),s167,s168,s169,s170,s171,s172,s173,s174,s175,s176,s177,s178,s179,s180,s181,s182,s183,s184,s185,s186],defers:=[] } W9) :
  Go.Code.wp Tryz.prog (rg78 31) (Only K_) { tmps:=#[.pointer (some ⟨g,0,none⟩),s1,s2,s3,s4,s5,.pointer (some ⟨gF,0,none⟩),s7,s8,s9,s10,s11,s12,s13,s14,s15,s16,s17,s18,s19,s20,s21,s22,s23,s24,s25,s26,s27,s28,s29,s30,s31,s32,s33,s34,s35,s36,s37,s38,s39,s40,s41,s42,s43,s44,s45,s46,s47,s48,s49,s50,s51,s52,s53,s54,s55,s56,s57,s58,s59,s60,s61,s62,s63,s64,s65,s66,s67,s68,s69,s70,s71,s72,s73,s74,s75,s76,s77,s78,s79,s80,s81,s82,s83,s84,s85,s86,s87,s88,s89,s90,s91,s92,s93,s94,s95,s96,s97,s98,s99,s100,s101,s102,s103,s104,s105,s106,s107,s108,s109,s110,s111,s112,s113,s114,s115,s116,s117,s118,s119,s120,s121,s122,s123,s124,s125,s126,s127,s128,s129,s130,s131,s132,s133,s134,s135,s136,s137,s138,s139,s140,s141,s142,s143,s144,s145,s146,s147,s148,s149,s150,s151,s152,s153,s154,s155,s156,s157,s158,s159,s160,s161,s162,s163,s164,s165,s166,s167,s168,s169,s170,s171,s172,s173,s174,s175,s176,s177,s178,s179,s180,s181,s182,s183,s184,s185,s186],defers:=[] } V:=by
 have HK:=hide hQ;clear hQ
 conv => arg 2;whnf
 have k4:=(zu HQ).blk.cell (m:=4) rfl;have n0:=zu HN;have hgs:=(zu HQ).blk.lt;have hns:=cell_lt n0;obtain ⟨iT,ht,hy0,hy1,hy2⟩:=info_parts info9
 go_region_law
  (refine step_own (by rfl) (.tmp 160) (.tmp 163) 23 (by rfl) B 9 iT _ 1 16 Tryz.underlying23 ht hy0 hy1 hy2 rfl (by omega) (.slice uo nd co) nd (strs ol) (by rfl) (by have h9:=(zu HQ).od;rw [zu HOL] at h9;exact own_bel h9 (by repeat (first | exact bfl _ _ | refine ba ?_ _ | refine Below.drew ?_)))
      ⟨V.heap.size,0,none⟩ 1 1 [.string nm] (by rfl) (by rfl) (by first | exact news_cells _ _ rfl | exact news_cells _ _ (by simp) | exact news_drew _ _ (by simp)) (strs_one _) (by unfold maxLen;omega) (by omega) (by first | omega | (simp;omega)) ?_;intro vo9 w9 hown9 hgrow9 hvn;obtain ⟨uo9,co9,rfl,_⟩:=own_form hown9;have HQ2:=hide ((zu HQ).ord (s:=nm) (by repeat (first | exact bfl _ _ | refine ba ?_ _ | refine Below.drew ?_)) hgrow9 (by rw [zu HOL];exact hown9) hg hgf hgb h1 h2);have e4:=((zu HQ).c4 (by repeat (first | exact bfl _ _ | refine ba ?_ _ | refine Below.drew ?_)) hgrow9 hg).1;have ez:=((zu HQ).c4 (by repeat (first | exact bfl _ _ | refine ba ?_ _ | refine Below.drew ?_)) hgrow9 hg).2;have HR11:=hide (fun B' t' k' v' m M (h : V.ownsRow B' t' k' v' m M) (ht : 9 ≠ t') (hb : g < B') => grw_own (g:=g) (o:=4) (x:=.slice uo9 (nd + 1) co9) (by repeat (first | exact bfl _ _ | refine ba ?_ _ | refine Below.drew ?_)) hgrow9 (zu HQ).od h ht hb);have HT11:=hide (grw_th (g:=g) (gf:=gf) (gb:=gb) (o:=4) (x:=.slice uo9 (nd + 1) co9) (by repeat (first | exact bfl _ _ | refine ba ?_ _ | refine Below.drew ?_)) hgrow9 (zu HQ).od hB);clear hgrow9 hown9 hvn)
 all_goals
  exact zu HK _ _ _ (zu HQ2) (zu HR11) (zu HT11)
def DoAns (fs : List Ft) (D : Bd) (i : Nat) (w : World) (B : Nat) (u : Option Addr) (n cu g gf gb : Nat) (e : Ending) (w' : World) : Prop :=
 match doF fs D i with
 | .inl x => (∃ v,e = .returned (.tuple #[.int .i64 x.1,v]) ∧ SRow w' w.heap.size v x.2) ∧ Below w.heap.size w w'
 | .inr D' => (∃ v,e = .returned (.tuple #[.int .i64 0,v]) ∧ SRow w' w.heap.size v []) ∧ (∃ ud cd uo co,Mdm w' B u n cu fs g gf gb ud cd uo co D') ∧ Th g gf gb B w w'
theorem stood_row {fs : List Ft} {D : Bd} {f : Ft} (h : emp f.on = true) : stood fs D f = .inr (bxs fs f):=by unfold stood;rw [if_pos h]
theorem bxsN_succ (fs : List Ft) (f : Ft) (m : Nat) : bxsN fs f (m + 1) = bxsN fs f m ++ [mvB (ftB (ofF fs f)) (((m : Int) + 1) * f.dx) (((m : Int) + 1) * f.dy) (((m : Int) + 1) * f.dz)]:=by
 unfold bxsN;rw [List.range_succ,List.map_append];rfl
theorem bxsN_len (fs : List Ft) (f : Ft) (m : Nat) : (bxsN fs f m).length = m:=by simp [bxsN]
theorem emp_i (s : ByteArray) : s.toList.isEmpty = emp s:=by
 rw [emp_l]
 cases s.toList <;> rfl
theorem Fl.e {F : Array Value} {f : Ft} (h : Fl F f) {j : Nat} {v : Value} (hv : (ftc f)[j]? = some v) (hj : j < F.size) : F[j] = v:=by
 have h2 : F.toList[j]? = some v:=by rw [h.l];exact hv
 rw [List.getElem?_eq_some_iff] at h2;obtain ⟨_,h2⟩:=h2
 simpa using h2
theorem Fl.vb {F : Array Value} {f : Ft} (h : Fl F f) {W : World} {g t : Nat} (hb : ab W g t F) : vb W g t (ftc f):=by
 show _ = _
 rw [← h.l];exact hb
theorem doM_any (B : Nat) (u : Option Addr) (p po n cu : Nat) (fs : List Ft) (g gf gb : Nat) (ud : Option Addr) (cd : Nat) (uo : Option Addr) (co : Nat) (D : Bd) (i : Nat) (f : Ft) (w : World)
  (hl : fs.length = n) (hF : Fine fs) (hu : SlG ftc 15 w u p po fs) (hfi : fs[i]? = some f) (hok : Okd fs D) (hnd : D.done.length ≤ 900) (hm : Mdm w B u n cu fs g gf gb ud cd uo co D)
  (hB : B ≤ w.heap.size) (hg : g < B) (hgf : gf < B) (hgb : gb < B) (h1 : g ≠ gf) (h2 : g ≠ gb) (h3 : gf ≠ gb) :
  Calls Tryz.prog 78 #[.pointer (some ⟨g,0,none⟩),.int .i64 (i : Int)] w (DoAns fs D i w B u n cu g gf gb):=by
 have hin : i < n:=by have:=(List.getElem?_eq_some_iff.1 hfi).1;omega
 have hfm:=List.mem_of_getElem? hfi;have hfb:=ftr_fb (hF.right f hfm);have hfl : n ≤ 30:=by have:=hF.len;omega
 have hgd : fs.getD i ft0 = f:=by rw [List.getD_eq_getElem?_getD,hfi];rfl
 obtain ⟨rfl,hpw,hfc⟩:=hu.at hfi;obtain ⟨F,hFl⟩:=fl_ex f;have HFL:=hide hFl;have LD:=hide (hFl.load hfc);have HI:=hide hFl.info;have hsz:=hFl.size;have HO:=hide hFl.one;have e3 : F[3]'(by omega) = .int .i64 f.kd:=hFl.e rfl _;have e5 : F[5]'(by omega) = .int .i64 f.x0:=hFl.e rfl _;have e6 : F[6]'(by omega) = .int .i64 f.y0:=hFl.e rfl _;have e7 : F[7]'(by omega) = .int .i64 f.z0:=hFl.e rfl _;have e8 : F[8]'(by omega) = .int .i64 f.x1:=hFl.e rfl _;have e9 : F[9]'(by omega) = .int .i64 f.y1:=hFl.e rfl _;have e10 : F[10]'(by omega) = .int .i64 f.z1:=hFl.e rfl _
 have HA0:=hide (ab_new w 75 F w.heap.size rfl);have HB0:=hide (ba (bfl w.heap.size w) (.cells F 75));have HU:=hide (fun W (h : Below w.heap.size w W) => hu.bel h);have HM:=hide (fun W (h : Below w.heap.size w W) => hm.bel h);have HFI:=hide hfi;have HFB:=hide hfb;have HF:=hide hF;have HOK:=hide hok;have HL:=hide hl;have HGD:=hide hgd;have k0:=hm.blk.cell (m:=0) rfl;have HDO:=hide (fun j (e : (Value.slice ud D.done.length cd).ownBlock = some j) => (own_ge hm.dn j e).2)
 have HOO:=hide (fun j (e : (Value.slice uo D.done.length co).ownBlock = some j) => (own_ge hm.od j e).2);have hin' : (i : Int) < (n : Int):=by omega
 clear hm hu hfi hfb hF hok hl hgd hfc hfm;go_enter Tryz.func78,Tryz.ntmps78
 go_upto_if 30 with (first | refine wpl_loadAt rfl 75 _ rfl _ rfl _ (zu LD) ?_ | refine wpl_putNew rfl 75 _ _ rfl w _ F 75 rfl rfl (zu HI) (by rw [hsz];rfl) (zu HO) ?_)
 clear e3 e5 e6 e7 e8 e9 e10 LD HO HI k0
 go_cut [7,8] (fun s7 s8 wx => ∃ um cm,s7 = .slice um (bxs fs f).length cm ∧ s8 = .int .i64 (kdF fs f) ∧ wx.ownsRow (w.heap.size + 1) 41 6 (.slice um (bxs fs f).length cm) (bxs fs f).length (flatG bxc (bxs fs f)) ∧ Below w.heap.size w wx ∧ vb wx w.heap.size 75 (ftc f))
 case first =>
  by_cases h3 : f.kd = 3
  ·obtain ⟨k,q,hk,hq,hoq,hq3,hqe,hqb⟩:=(zu HF).of_ (List.mem_of_getElem? (zu HFI)) h3
   have b3 : (f.kd == 3) = true:=by simp [h3]
   have HFD:=hide (fun W (h : SlG ftc 15 W (some ⟨p,po,none⟩) p po fs) => find_any (some ⟨p,po,none⟩) p po n cu fs f.ov W (zu HL) (by omega) h);rw [findI_some hk] at HFD;have hkn : k < n:=by have:=findN_lt hk;have:=zu HL;omega
   obtain ⟨cn,hcn⟩ : ∃ c : Nat,f.ct = (c : Int):=⟨f.ct.toNat,by have:=(zu HFB).ct;omega⟩
   have hcn8 : cn ≤ 8:=by have:=(zu HFB).ct;omega
   have hbx : bxs fs f = bxsN fs f cn:=by unfold bxs;rw [if_pos h3,hcn];rfl
   have hkd : kdF fs f = q.kd:=by unfold kdF;rw [if_pos h3,hoq]
   have HFAR:=hide (zu HFB).far;have hqs:=bxS_mono hqb.bx (show (24 : Int) ≤ 1000 by omega);have HMV:=hide (fun x y z W => mMoved_any (ftB q) x y z W hqs);have HOQ:=hide hoq;have HBX:=hide hbx;have HKD:=hide hkd;clear hoq hbx hkd hq3 hqe hqb hqs
   go_upto_region 5 with fail
   obtain ⟨W2,hW2⟩ : ∃ W,W = (w.alloc (.cells F 75)).alloc (.cells #[.int .i64 f.x0,.int .i64 f.y0,.int .i64 f.z0,.int .i64 f.x1,.int .i64 f.y1,.int .i64 f.z1] 41):=⟨_,rfl⟩
   rw [← hW2];have hb2 : Below w.heap.size w W2:=by rw [hW2];exact ba (ba (bfl _ _) _) _
   have hf2 : vb W2 w.heap.size 75 (ftc f):=by rw [hW2];exact (hFl.vb (zu HA0)).bel (ba (bfl _ _) _)
   have hs2 : w.heap.size + 1 ≤ W2.heap.size:=by rw [hW2];simp
   clear hW2;obtain ⟨_,_,hqc⟩:=(zu HU _ hb2).at hq;have HS2:=hide hs2;have HB2:=hide hb2;have HF2:=hide hf2
   refine Go.Code.wp_mono (Only.to (fun _ _ h => h)) (do5 (hide ((zu HM _ hb2).blk.cell (m:=0) rfl)) (hide (hf2.cell (m:=2) rfl)) (hide (hqc 0 _ rfl)) (hide (hqc 1 _ rfl)) (hide (hqc 2 _ rfl)) (hide (hqc 3 _ rfl)) (hide (hqc 4 _ rfl)) (hide (hqc 5 _ rfl)) (hide (hqc 6 _ rfl)) (hide (hqc 7 _ rfl)) (hide (hqc 8 _ rfl)) (hide (hqc 9 _ rfl)) (hide (hqc 10 _ rfl)) (hide (hqc 11 _ rfl)) (hide (hqc 12 _ rfl)) (hide (hqc 13 _ rfl)) (hide (hqc 14 _ rfl)) (hide fun X hX => (zu HFD X (zu HU _ (bc (zu HB2) hX))).mono (by rintro e w' ⟨rfl,rfl⟩;exact ⟨rfl,bfl _ _⟩)) (hide hkn) ?_)
   intro n13 W3 hb3 hv3 hn13;have hf3:=hf2.bel hb3;have hb03:=bc hb2 hb3;have HB3:=hide hb03;have HF3:=hide hf3;have HV3:=hide (show vb W3 n13 75 (ftc q) from hv3);have HS3:=hide (Nat.le_trans hs2 hb3.size);have HN13:=hide hv3.lt
   obtain ⟨Z3,hZ3⟩ : ∃ z,W3.heap.size = z:=⟨_,rfl⟩
   have HZ3:=hide hZ3;have c3:=hv3.cell (m:=3) rfl;have HR0:=hide (own_made W3 41 Z3 6 (Nat.le_of_eq hZ3.symm) _ rfl);clear hZ3 hb2 hf2 hs2 hqc hb3 hv3 hn13 hf3 hb03 HB2 HF2 HS2 HFD b3 h3 hk hkn hq;obtain ⟨iT,ht,ht0,ht1,ht2⟩:=info_parts info65;go_wp2_with fail;clear c3;have HB4:=hide (ba (zu HB3) (.cells #[] 41));have HF4:=hide ((zu HF3).bel (ba (bfl _ _) (.cells #[] 41)));have HV4:=hide ((zu HV3).bel (ba (bfl _ _) (.cells #[] 41)))
   go_loopw [7,10] (fun s7 s10 W => ∃ (m cm : Nat) (um : Option Addr),s7 = .slice um m cm ∧ s10 = .int .i64 ((m : Int) + 1) ∧ m ≤ cn ∧ W.ownsRow Z3 41 6 (.slice um m cm) m (flatG bxc (bxsN fs f m)) ∧ Below w.heap.size w W ∧ vb W w.heap.size 75 (ftc f) ∧ vb W n13 75 (ftc q) ∧ Z3 ≤ W.heap.size) (fun _ s10 _ => cn + 1 - (intOf s10).toNat)
   case atStart => exact ⟨0,_,_,rfl,rfl,Nat.zero_le _,zu HR0,zu HB4,zu HF4,zu HV4,by rw [← zu HZ3];simp⟩
   case round =>
    clear HR0 HB4 HF4 HV4 HB3 HF3 HV3;obtain ⟨m,cm,um,rfl,rfl,hmc,hr,hb,hf,hv,hs⟩:=hrel;have HR:=hide hr;have HB:=hide hb;have HFv:=hide hf;have HV:=hide hv;have HS:=hide hs;have c11:=hf.cell (m:=11) rfl;rw [hcn] at c11
    by_cases h : m < cn
    ·have iz : decide ((m : Int) + 1 ≤ (cn : Int)) = true:=dt (by omega)
     have c12:=hf.cell (m:=12) rfl;have c13:=hf.cell (m:=13) rfl;have c14:=hf.cell (m:=14) rfl;have d5:=hv.cell (m:=5) rfl;have d6:=hv.cell (m:=6) rfl;have d7:=hv.cell (m:=7) rfl;have d8:=hv.cell (m:=8) rfl;have d9:=hv.cell (m:=9) rfl;have d10:=hv.cell (m:=10) rfl;obtain ⟨⟨fx1,fx2⟩,⟨fy1,fy2⟩,⟨fz1,fz2⟩⟩:=zu HFAR;have mx:=mul_bnd (a:=(m : Int) + 1) (b:=f.dx) (by omega) ⟨fx1,fx2⟩;have my:=mul_bnd (a:=(m : Int) + 1) (b:=f.dy) (by omega) ⟨fy1,fy2⟩;have mz:=mul_bnd (a:=(m : Int) + 1) (b:=f.dz) (by omega) ⟨fz1,fz2⟩
     have wx : IntKind.i64.wrap (((m : Int) + 1) * f.dx) = ((m : Int) + 1) * f.dx:=wrap_i (by omega) (by omega);have wy : IntKind.i64.wrap (((m : Int) + 1) * f.dy) = ((m : Int) + 1) * f.dy:=wrap_i (by omega) (by omega);have wz : IntKind.i64.wrap (((m : Int) + 1) * f.dz) = ((m : Int) + 1) * f.dz:=wrap_i (by omega) (by omega);have wi : IntKind.i64.wrap ((m : Int) + 1 + 1) = ((m + 1 : Nat) : Int) + 1:=(wrap_i (by omega) (by omega)).trans (by simp)
     have HMV1:=hide (fun W => zu HMV (((m : Int) + 1) * f.dx) (((m : Int) + 1) * f.dy) (((m : Int) + 1) * f.dz) W (by omega) (by omega) (by omega));have HBS:=hide (bxsN_succ fs f m);rw [zu HOQ] at HBS
     obtain ⟨bq,hbq⟩ : ∃ b,mvB (ftB q) (((m : Int) + 1) * f.dx) (((m : Int) + 1) * f.dy) (((m : Int) + 1) * f.dz) = b:=⟨_,rfl⟩
     rw [hbq] at HMV1 HBS;clear hbq mx my mz fx1 fx2 fy1 fy2 fz1 fz2 hr hb hf hv hs;go_wp2_with fail;refine (zu HMV1 _).mono ?_;rintro e W5 ⟨rfl,hb5⟩;have HR5:=hide (own_bel (zu HR) hb5);have HB5:=hide (bc (zu HB) hb5);have HF5:=hide ((zu HFv).bel hb5);have HV5:=hide ((zu HV).bel hb5);have HS5:=hide (Nat.le_trans (zu HS) hb5.size);clear hb5 c11 c12 c13 c14 d5 d6 d7 d8 d9 d10;unfold bxv
     go_wp2_with (at_builtin;refine zu ?_)
     refine hide ?_;refine wpList_append_own _ rfl _ _ 148 rfl Z3 41 iT _ 6 48 Tryz.underlying148 ht ht0 ht1 ht2 rfl (by decide) _ m _ rfl (own_bel (zu HR5) (ba (bfl _ _) _)) _ 1 1 (bxc bq) rfl rfl (by first | exact news_cells _ _ rfl | exact news_cells _ _ (by simp)) (bxc_one _) (by unfold maxLen;omega) (by omega) (by have:=zu HS5;simp;omega) ?_;intro v' w1 hown' hgrow _;have R:=hide (own_app (c:=bxc) (Below.alloc (B:=Z3) (bfl _ _) (zu HS5) _) (by have:=zu HS5;simp;omega) (zu HR5) hown' hgrow);have hz3:=zu HZ3;have hs3:=zu HS3;have hn3:=zu HN13
     have HB6:=hide ((zu HB5).trans ((zu R).2.mono (by omega)));have HF6:=hide ((zu HF5).below (zu R).2 (by omega));have HV6:=hide ((zu HV5).below (zu R).2 (by omega));have HS6:=hide (Nat.le_trans (zu HS5) (zu R).2.size);clear hown' hgrow hz3 hs3 hn3;go_wp2_with fail;go_roundw
     case rel =>
      have hrr:=(zu R).1;rw [← zu HBS] at hrr;obtain ⟨u9,c9,rfl,_⟩:=own_form hrr;exact ⟨m + 1,c9,u9,rfl,rfl,by omega,hrr,zu HB6,zu HF6,zu HV6,zu HS6⟩
     case measure => simp only [intOf];omega
    ·obtain rfl : m = cn:=by omega
     have iz : decide ((m : Int) + 1 ≤ (m : Int)) = false:=df (by omega);clear hr hb hf hv hs;go_wp2_with fail
     go_meet
     case rel => exact ⟨um,cm,by rw [zu HBX,bxsN_len],by rw [zu HKD],by rw [zu HBX,bxsN_len];exact own_mono (zu HR) (by have:=zu HZ3;have:=zu HS3;omega),zu HB,zu HFv⟩
  ·have b3 : (f.kd == 3) = false:=by simpa using h3
   have hbx : bxs fs f = [ftB f]:=by unfold bxs;rw [if_neg h3]
   have hkd : kdF fs f = f.kd:=by unfold kdF;rw [if_neg h3]
   have HBX:=hide hbx;have HKD:=hide hkd;clear h3 hbx hkd;go_wp2_with fail
   go_meet
   case rel => exact ⟨_,_,by rw [zu HBX];rfl,by rw [zu HKD],by rw [zu HBX,flat_oneG];exact (vb_new _ 41 (bxc (ftB f)) _ (by simp)).ownsK (Nat.le_refl _) rfl,ba (ba (bfl _ _) _) _,(hFl.vb (zu HA0)).bel (ba (bfl _ _) _)⟩
 case rest =>
  obtain ⟨um,cm,rfl,rfl,hr,hb,hf⟩:=hcut;have HR:=hide hr;have HB:=hide hb;have HFv:=hide hf;have c1:=hf.cell (m:=1) rfl;have HUM:=hide (own_form hr);clear hr hb hf HA0 HB0 HFL hsz
  go_upto_if 73 with fail
  clear c1
  go_cut [7] (fun s7 wx => ∃ l um cm,stood fs D f = .inr l ∧ l.length ≤ 1000 ∧ s7 = .slice um l.length cm ∧ wx.ownsRow (w.heap.size + 1) 41 6 (.slice um l.length cm) l.length (flatG bxc l) ∧ Below w.heap.size w wx ∧ vb wx w.heap.size 75 (ftc f))
  case first =>
   by_cases ho : emp f.on = true
   ·have b1 : (!f.on.toList.isEmpty) = false:=by rw [emp_i,ho];rfl
    rw [b1];clear b1;have HST:=hide (stood_row (D:=D) (fs:=fs) ho);clear ho;go_wp2_with fail
    go_meet
    case rel => exact ⟨_,um,cm,zu HST,by have:=bxs_len (fs:=fs) (zu HFB);omega,rfl,zu HR,zu HB,zu HFv⟩
   ·have ho' : emp f.on = false:=by simpa using ho
    have b1 : (!f.on.toList.isEmpty) = true:=by rw [emp_i,ho'];rfl
    rw [b1];clear b1;obtain ⟨hk3,hs1,hs6⟩:=(zu HFB).on ho';have hbx : bxs fs f = [ftB f]:=by unfold bxs;rw [if_neg hk3]
    obtain ⟨sd,hsd⟩ : ∃ s : Nat,f.sd = (s : Int):=⟨f.sd.toNat,by omega⟩
    have hst : stood fs D f = (if ofO (tlds fs D) (byOf fs D.done f.on) sd = [] then .inl (8,[f.nm,f.on]) else if 1 < pcsL (ofO (tlds fs D) (byOf fs D.done f.on) sd) then .inl (13,[f.nm,f.on]) else .inr [mvB (ftB f) (hul (ofO (tlds fs D) (byOf fs D.done f.on) sd)).x0 (hul (ofO (tlds fs D) (byOf fs D.done f.on) sd)).y0 (hul (ofO (tlds fs D) (byOf fs D.done f.on) sd)).z0]):=by
     unfold stood;rw [if_neg ho,show f.sd.toNat = sd by omega]
    have HST:=hide hst;have HSD:=hide hsd;rw [hbx] at HR HUM ⊢;have HMB:=hide (fun x y z W => mMoved_any (ftB f) x y z W (bxS_mono (zu HFB).bx (show (24 : Int) ≤ 1000 by omega)));clear ho ho' hk3 hs1 hs6 hbx hst hsd;have hm5:=zu HM _ (zu HB);have g4:=hm5.blk.cell (m:=4) rfl;have HOD:=hide hm5.od;have HG4:=hide g4;clear hm5
    obtain ⟨nd,hnd2⟩ : ∃ q,D.done.length = q:=⟨_,rfl⟩
    rw [hnd2] at HOD HG4 g4;have HND:=hide hnd2;have HN9:=hide (show nd ≤ 900 by omega);clear hnd2;go_wp2_with fail
    go_loopw [11,12] (fun s11 s12 W => ∃ k : Nat,s11 = .int .i64 ((byL fs D.done f.on k : Nat) : Int) ∧ s12 = .int .i64 (k : Int) ∧ k ≤ nd ∧ Below wc.heap.size wc W) (fun _ s12 _ => nd - (intOf s12).toNat)
    case atStart => exact ⟨0,rfl,rfl,Nat.zero_le _,bfl _ _⟩
    case round =>
     obtain ⟨k,rfl,rfl,hk,hb⟩:=hrel;have HBk:=hide hb;have g4k:=keep1 hb (zu HG4)
     by_cases h : k < nd
     ·have iz : decide ((k : Int) < (nd : Int)) = true:=dt (by omega)
      obtain ⟨d,hd⟩:=get_some (zu HND) h;obtain ⟨uo',co',huo,_,_,hgo⟩:=own_form (zu HOD)
      injection huo with a1 a2 a3
      subst a1;obtain ⟨go_,rfl,_,_,hx⟩:=hgo (by omega);have hxk:=keep1 hb (hx k _ (onm_at hd));have f1:=keep1 hb ((zu HFv).cell (m:=1) rfl);have by0:=byL_le fs D.done f.on k;have wk : IntKind.i64.wrap ((k : Int) + 1) = ((k + 1 : Nat) : Int):=(wrap_i (by have:=zu HN9;omega) (by have:=zu HN9;omega)).trans (by simp);have HD:=hide hd;have HG4k:=hide g4k;have HXK:=hide hxk;have HF1:=hide f1;have HKN:=hide h;clear hx hgo hd hxk f1 hb
      go_upto_region 17 with fail
      clear g4k;refine Go.Code.wp_mono (Only.to (fun _ _ h => h)) (do17 (zu (hide HG4k)) HXK HF1 HKN ?_);intro W1 hb1;have HB1:=hide (bc (zu HBk) hb1);clear hb1
      cases hq : ((fs.getD d ft0).nm.toList == f.on.toList) with
      | true =>
       have HBY:=hide (byL_yes (zu HD) hq);clear hq;go_wp2_with fail;go_roundw
       case rel => exact ⟨k + 1,by rw [zu HBY];simp,rfl,by have:=zu HKN;omega,zu HB1⟩
       case measure => have:=zu HKN;simp only [intOf];omega
      | false =>
       have HBY:=hide (byL_no (zu HD) hq);clear hq;go_wp2_with fail;go_roundw
       case rel => exact ⟨k + 1,by rw [zu HBY],rfl,by have:=zu HKN;omega,zu HB1⟩
       case measure => have:=zu HKN;simp only [intOf];omega
     ·obtain rfl : k = nd:=by omega
      have iz : decide ((k : Int) < (k : Int)) = false:=df (by omega);have hby : byL fs D.done f.on k = byOf fs D.done f.on:=by unfold byOf;rw [zu HND]
      rw [hby] at *;clear hby HG4 g4 HOD hb
      obtain ⟨bn,hbn⟩ : ∃ b,byOf fs D.done f.on = b:=⟨_,rfl⟩
      rw [hbn] at HST ⊢;clear hbn;have HBW:=hide (bc (zu HB) (zu HBk));have HFW:=hide ((zu HFv).bel (zu HBk));have HRW:=hide (own_bel (zu HR) (zu HBk))
      go_upto_region 19 with fail
      clear g4k
      obtain ⟨l,hle⟩ : ∃ l,ofO (tlds fs D) bn sd = l:=⟨_,rfl⟩
      have HLS:=hide (show ∀ b ∈ l,bxS 1000 b by rw [← hle];exact ofO_S);have HFC:=hide (fun (rv : Value) (X : World) (h : Tls (tlds fs D) X rv) => face_tls h bn sd (tlds_len fs D) (tlds_S fs D));have HLN:=hide (show l.length ≤ 100000 by have:=ofO_len_le (tlds fs D) bn sd;have:=tlds_len fs D;rw [hle] at *;omega);rw [hle] at HST HFC;clear hle
      obtain ⟨⟨q0,q1,q2,q3,q4,q5⟩,hq⟩ : ∃ q,hul l = q:=⟨_,rfl⟩
      have HHL:=hide hq;rw [hq] at HST HFC;clear hq
      obtain ⟨ar,har⟩ : ∃ q,l.length = q:=⟨_,rfl⟩
      obtain ⟨pc,hpc⟩ : ∃ q,pcsL l = q:=⟨_,rfl⟩
      have hnil : l = [] ↔ ar = 0:=by rw [← har];exact List.length_eq_zero_iff.symm
      rw [har] at HFC HLN;rw [hpc] at HFC HST;have HNIL:=hide hnil;clear har hpc hnil;refine Go.Code.wp_mono (Only.to (fun _ _ h => h)) (do19 (Tl_:=Tls (tlds fs D)) (fun h hb => h.keep hb) (hide (by have:=(zu HFW).cell (m:=4) rfl;rw [zu HSD] at this;exact this)) (hide fun X hX => told_tls (zu HF) (zu HL) (zu HU _ (bc (zu HBW) hX)) (zu HOK) (by have:=zu HND;omega) (zu HM _ (bc (zu HBW) hX))) (hide fun rv X hX h => zu HFC rv X h) ?_);intro n6 rv W1 hb1 hv6 hn6;have hf1:=(zu HFW).bel hb1;have hbw1:=bc (zu HBW) hb1;have hr1:=own_bel (zu HRW) hb1
      have hv6' : vb W1 n6 43 [.string ⟨#[]⟩,.int .i64 (sd : Int),.int .i64 (ar : Int),.int .i64 (pc : Int),.int .i64 q0,.int .i64 q1,.int .i64 q2,.int .i64 q3,.int .i64 q4,.int .i64 q5]:=hv6;have HV6:=hide hv6';have HF1:=hide hf1;have HB1:=hide hbw1;have HR1:=hide hr1;have d2:=hv6'.cell (m:=2) rfl;have d3:=hv6'.cell (m:=3) rfl;have HQS:=hide (fun (h : l ≠ []) => show bxS 1000 ⟨q0,q1,q2,q3,q4,q5⟩ by rw [← zu HHL];exact hul_S h (zu HLS));clear hb1 hv6 hv6' hn6 hf1 hbw1 hr1 HFC HFW HBW HRW HLS HHL HM HU HF HOK
      by_cases h0 : ar = 0
      ·have e0 : ((ar : Int) == 0) = true:=by rw [h0];rfl
       have hd : doF fs D i = .inl (8,[f.nm,f.on]):=by
        unfold doF;rw [zu HGD,zu HST,if_pos ((zu HNIL).2 h0)]
       have HD:=hide hd;clear h0 hd
       go_upto_region 21 with fail
       clear e0 d2 d3;refine Go.Code.wp_mono (Only.to (fun _ _ h => h)) (do21 (hide ((zu HF1).cell (m:=0) rfl)) (hide ((zu HF1).cell (m:=1) rfl)) ?_);intro n4 W2 hb2 hv4 hn4
       have hE : DoAns fs D i w B (some ⟨p,po,none⟩) n cu g gf gb (.returned (.tuple #[.int .i64 8,.slice (some ⟨n4,0,none⟩) 2 2])) W2:=by
        unfold DoAns;rw [zu HD];exact ⟨⟨_,rfl,(show vb W2 n4 9 (strs [f.nm,f.on]) from hv4).srow (Nat.le_trans (zu HB1).size hn4) (by simp)⟩,bc (zu HB1) hb2⟩
       have HE:=hide hE;clear hb2 hv4 hn4 hE;go_wp2_with fail;refine bodyPost_ret (v:=.tuple #[.int .i64 8,.slice (some ⟨n4,0,none⟩) 2 2]) (by simp [results,Tryz.results78,go_sem]) rfl ?_;exact zu HE
      ·have e0 : ((ar : Int) == 0) = false:=by simpa using h0
       have hne : l ≠ []:=fun h => h0 ((zu HNIL).1 h)
       by_cases h1p : 1 < pc
       ·have e1 : decide ((1 : Int) < (pc : Int)) = true:=dt (by omega)
        have hd : doF fs D i = .inl (13,[f.nm,f.on]):=by
         unfold doF;rw [zu HGD,zu HST,if_neg hne,if_pos h1p]
        have HD:=hide hd;clear h0 hd hne h1p
        go_upto_region 23 with fail
        clear e0 d2 d3 e1;refine Go.Code.wp_mono (Only.to (fun _ _ h => h)) (do23 (hide ((zu HF1).cell (m:=0) rfl)) (hide ((zu HF1).cell (m:=1) rfl)) ?_);intro n4 W2 hb2 hv4 hn4
        have hE : DoAns fs D i w B (some ⟨p,po,none⟩) n cu g gf gb (.returned (.tuple #[.int .i64 13,.slice (some ⟨n4,0,none⟩) 2 2])) W2:=by
         unfold DoAns;rw [zu HD];exact ⟨⟨_,rfl,(show vb W2 n4 9 (strs [f.nm,f.on]) from hv4).srow (Nat.le_trans (zu HB1).size hn4) (by simp)⟩,bc (zu HB1) hb2⟩
        have HE:=hide hE;clear hb2 hv4 hn4 hE;go_wp2_with fail;refine bodyPost_ret (v:=.tuple #[.int .i64 13,.slice (some ⟨n4,0,none⟩) 2 2]) (by simp [results,Tryz.results78,go_sem]) rfl ?_;exact zu HE
       ·have e1 : decide ((1 : Int) < (pc : Int)) = false:=df (by omega)
        obtain ⟨⟨a1,a2⟩,⟨a3,a4⟩,⟨a5,a6⟩,_⟩:=zu HQS hne;have HMB1:=hide (fun W => zu HMB q0 q1 q2 W ⟨a1,a2⟩ ⟨a3,a4⟩ ⟨a5,a6⟩);have hst : stood fs D f = .inr [mvB (ftB f) q0 q1 q2]:=by rw [zu HST,if_neg hne,if_neg h1p]
        obtain ⟨⟨m0,m1,m2,m3,m4,m5⟩,hmv⟩ : ∃ b,mvB (ftB f) q0 q1 q2 = b:=⟨_,rfl⟩
        rw [hmv] at HMB1 hst;have HST2:=hide hst;have f5:=(zu HF1).cell (m:=5) rfl;have f6:=(zu HF1).cell (m:=6) rfl;have f7:=(zu HF1).cell (m:=7) rfl;have f8:=(zu HF1).cell (m:=8) rfl;have f9:=(zu HF1).cell (m:=9) rfl;have f10:=(zu HF1).cell (m:=10) rfl;have d4:=(zu HV6).cell (m:=4) rfl;have d5:=(zu HV6).cell (m:=5) rfl;have d6:=(zu HV6).cell (m:=6) rfl;obtain ⟨um',cm',hum,_,_,hgx⟩:=own_form (zu HR1)
        injection hum with z1 z2 z3
        subst z1;subst z3;obtain ⟨gx,rfl,hgB,hgl,hgc⟩:=hgx (by simp);have HGB:=hide hgB;clear a1 a2 a3 a4 a5 a6 hst hmv hne h0 h1p hgx hgB hgl hgc HMB HST HQS HNIL;go_wp2_with fail;refine (zu HMB1 _).mono ?_;rintro e W2 ⟨rfl,hb2⟩;have hr2:=own_bel (zu HR1) hb2;have HR2:=hide hr2;have HB2:=hide (bc (zu HB1) hb2);have HF2:=hide ((zu HF1).bel hb2);have fz:=own_frz hr2;obtain ⟨u2',c2',hu2,_,_,hg2⟩:=own_form hr2
        injection hu2 with z1 z2 z3
        subst z1;subst z3;obtain ⟨g2,hg2e,_,_,hgc2⟩:=hg2 (by simp)
        injection hg2e with z4
        injection z4 with z5
        subst z5;have x0:=hgc2 0 _ rfl;have x1:=hgc2 1 _ rfl;have x2:=hgc2 2 _ rfl;have x3:=hgc2 3 _ rfl;have x4:=hgc2 4 _ rfl;have x5:=hgc2 5 _ rfl;unfold bxv;clear hb2 hr2 hg2 hgc2 f5 f6 f7 f8 f9 f10 d2 d3 d4 d5 d6 e0 e1;go_wp2_with fail
        go_meet
        case rel =>
         refine ⟨_,_,_,zu HST2,by simp,rfl,?_,?_,?_⟩
         ·have h6:=own_set (own_set (own_set (own_set (own_set (own_set (zu HR2) 0 (.int .i64 m0)) 1 (.int .i64 m1)) 2 (.int .i64 m2)) 3 (.int .i64 m3)) 4 (.int .i64 m4)) 5 (.int .i64 m5)
          rw [flat_oneG] at h6 ⊢;exact h6
         ·have hgb:=zu HGB
          iterate 6 (refine Below.setCell ?_ (show w.heap.size ≤ (⟨gx,_,none⟩ : Addr).block from by show w.heap.size ≤ gx;omega) _)
          exact zu HB2
         ·have hgb:=zu HGB
          exact ((((((zu HF2).ne (by omega)).ne (by omega)).ne (by omega)).ne (by omega)).ne (by omega)).ne (by omega)
  case rest =>
   obtain ⟨l,um,cm,hst,hll,rfl,hr,hb,hf⟩:=hcut;have HST:=hide hst;have HR:=hide hr;have HB:=hide hb;have HFv:=hide hf
   obtain ⟨ln,hln⟩ : ∃ q,l.length = q:=⟨_,rfl⟩
   have HLN:=hide hln;rw [hln] at HR hll ⊢;have HBX:=hide (fun b W => mBox_any b W);clear hst hr hb hf hln HUM;go_wp2_with fail
   go_loopw [14] (fun s14 W => ∃ k : Nat,s14 = .int .i64 (k : Int) ∧ k ≤ ln ∧ (∀ (j : Nat) (b : Bx),j < k → l[j]? = some b → bxOk b = true) ∧ Below wc.heap.size wc W) (fun s14 _ => ln - (intOf s14).toNat)
   case atStart => exact ⟨0,rfl,Nat.zero_le _,fun j b h => absurd h (Nat.not_lt_zero _),bfl _ _⟩
   case round =>
    obtain ⟨k,rfl,hk,hall,hbk⟩:=hrel;have HALL:=hide hall;have HBk:=hide hbk;clear hall
    by_cases h : k < ln
    ·have iz : decide ((k : Int) < (ln : Int)) = true:=dt (by omega)
     have i1 : (k : Int) < (ln : Int):=by omega
     have i0 : (0 : Int) ≤ (k : Int):=Int.natCast_nonneg _;have wk : IntKind.i64.wrap ((k : Int) + 1) = ((k + 1 : Nat) : Int):=(wrap_i (by omega) (by omega)).trans (by simp);obtain ⟨⟨b0,b1,b2,b3,b4,b5⟩,hbq⟩:=get_some (zu HLN) h;have hrk:=own_bel (zu HR) hbk;obtain ⟨gx,rfl,_,_,hx⟩:=own_rowc bxc_len hrk (by omega);have x0:=hx k _ hbq 0 _ rfl;have x1:=hx k _ hbq 1 _ rfl;have x2:=hx k _ hbq 2 _ rfl;have x3:=hx k _ hbq 3 _ rfl;have x4:=hx k _ hbq 4 _ rfl;have x5:=hx k _ hbq 5 _ rfl;rw [Nat.add_zero] at x0;have HBQ:=hide hbq
     have HBO:=hide (fun W => zu HBX ⟨b0,b1,b2,b3,b4,b5⟩ W);have HKN:=hide h;clear hbk hrk hx hbq;unfold bxv at HBO;go_wp2_with fail;refine (zu HBO _).mono ?_;rintro e W1 ⟨rfl,hb1⟩;have HB1:=hide (bc (zu HBk) hb1);clear hb1 x0 x1 x2 x3 x4 x5
     cases hq : bxOk ⟨b0,b1,b2,b3,b4,b5⟩ with
     | true =>
      have HQ:=hide hq;clear hq;go_wp2_with fail;go_roundw
      case rel =>
       refine ⟨k + 1,rfl,by have:=zu HKN;omega,fun j b hj hjb => ?_,zu HB1⟩
       by_cases e : j = k
       ·subst e
        rw [zu HBQ] at hjb
        cases hjb
        exact zu HQ
       ·exact zu HALL j b (by omega) hjb
      case measure => have:=zu HKN;simp only [intOf];omega
     | false =>
      have hd : doF fs D i = .inl (5,[f.nm]):=by
       unfold doF;rw [zu HGD,zu HST]
       have : (l.any fun b => !bxOk b) = true:=by
        rw [List.any_eq_true];exact ⟨_,List.mem_of_getElem? (zu HBQ),by rw [hq];rfl⟩
       simp only;rw [if_pos this]
      have HD:=hide hd;have HBW:=hide (bc (zu HB) (zu HB1));have HFW:=hide ((zu HFv).bel (zu HB1));clear hd hq
      go_upto_region 29 with fail
      refine Go.Code.wp_mono (Only.to (fun _ _ h => h)) (do29 (hide ((zu HFW).cell (m:=0) rfl)) ?_);intro n2 W2 hb2 hv2 hn2
      have hE : DoAns fs D i w B (some ⟨p,po,none⟩) n cu g gf gb (.returned (.tuple #[.int .i64 5,.slice (some ⟨n2,0,none⟩) 1 1])) W2:=by
       unfold DoAns;rw [zu HD];exact ⟨⟨_,rfl,(show vb W2 n2 9 (strs [f.nm]) from hv2).srow (Nat.le_trans (zu HBW).size hn2) (by simp)⟩,bc (zu HBW) hb2⟩
      have HE:=hide hE;clear hb2 hv2 hn2 hE;go_wp2_with fail;refine bodyPost_ret (v:=.tuple #[.int .i64 5,.slice (some ⟨n2,0,none⟩) 1 1]) (by simp [results,Tryz.results78,go_sem]) rfl ?_;exact zu HE
    ·obtain rfl : k = ln:=by omega
     have iz : decide ((k : Int) < (k : Int)) = false:=df (by omega)
     have hd : doF fs D i = .inr ⟨D.done ++ [i],l.foldl (fun c b => fil b (decide (kdF fs f = 1)) (D.done.length + 1) c) D.cs⟩:=by
      unfold doF;rw [zu HGD,zu HST]
      have : (l.any fun b => !bxOk b) = false:=by
       rw [List.any_eq_false];intro b hb;obtain ⟨j,hj,hjb⟩:=List.getElem_of_mem hb;rw [zu HALL j b (by have:=zu HLN;omega) (by rw [List.getElem?_eq_getElem hj,hjb])];simp
      simp only;rw [if_neg (by rw [this];simp)]
     have HD:=hide hd;have hbw:=bc (zu HB) hbk;have hq:=(zu HM _ hbw).q;have HQ:=hide hq;have HR9:=hide (own_bel (zu HR) hbk);have HF9:=hide ((zu HFv).bel hbk);have HBW:=hide hbw;have g1:=hq.blk.cell (m:=1) rfl;have gz:=hq.blk.frozen;have hsz:=Nat.le_trans hB hbw.size;have HSZ:=hide hsz;have hnd' : D.done.length ≤ 900:=hnd
     obtain ⟨nd,hnd2⟩ : ∃ q,D.done.length = q:=⟨_,rfl⟩
     have HND:=hide hnd2;rw [hnd2] at g1 hnd' HQ HDO HOO;have HOWN:=hide (show wr.ownsRow B 3 1 (.slice ud nd cd) nd (flatG natc D.done) by have:=hq.dn;rw [hnd2] at this;exact this);obtain ⟨iI,hi,hz0,hz1,hz2⟩:=info_parts info3;clear hd hbw hq hbk hsz hnd2 HST HU HFI HF HOK HL HFv HR HB HBk HFB
     go_wp2_with (at_builtin;refine zu ?_)
     refine hide ?_;refine wpList_append_own _ rfl _ _ 94 rfl B 3 iI _ 1 8 Tryz.underlying94 hi hz0 hz1 hz2 rfl (by decide) _ nd _ rfl (own_bel (zu HOWN) (ba (bfl _ _) _)) _ 1 1 (natc i) rfl rfl (by first | exact news_cells _ _ rfl | exact news_cells _ _ (by simp [natc])) (natc_one _) (by unfold maxLen;omega) (by omega) (by have:=zu HSZ;simp;omega) ?_;intro vdn w1 hown' hgrow _;obtain ⟨ud9,cd9,rfl,_⟩:=own_form hown';have HQ1:=hide ((zu HQ).done (i:=i) (ba (bfl _ _) _) hgrow (by rw [zu HND];exact hown') hg hgf hgb h1 h2)
     obtain ⟨e1,ez⟩:=(zu HQ).c1 (ba (bfl _ _) (.cells #[.int .i64 (i : Int)] 3)) hgrow hg;have HF10:=hide ((grw_keep (g:=g) (o:=1) (x:=(.slice ud9 (nd + 1) cd9)) (ba (bfl _ _) (.cells #[.int .i64 (i : Int)] 3)) hgrow (zu HF9).lt (by omega) (fun e => by have:=zu HDO _ e;omega)).trans (zu HF9));have HR10:=hide (grw_own (g:=g) (o:=1) (x:=(.slice ud9 (nd + 1) cd9)) (ba (bfl _ _) (.cells #[.int .i64 (i : Int)] 3)) hgrow (zu HOWN) (zu HR9) (by decide) (by omega))
     have HT10:=hide ((Th.of_bel ((zu HBW).mono hB)).trans (grw_th (g:=g) (gf:=gf) (gb:=gb) (o:=1) (x:=(.slice ud9 (nd + 1) cd9)) (ba (bfl _ _) (.cells #[.int .i64 (i : Int)] 3)) hgrow (zu HOWN) (zu HSZ)));clear hown' hgrow g1 gz HQ HF9 HR9 HOWN HBW HSZ
     go_upto_region 31 with fail
     clear e1 ez
     obtain ⟨W4,hW4⟩ : ∃ W,w1.setCell ⟨g,1,none⟩ (.slice ud9 (nd + 1) cd9) = W:=⟨_,rfl⟩
     rw [hW4] at HQ1 HF10 HR10 HT10 ⊢;clear hW4;have k4:=(zu HQ1).blk.cell (m:=4) rfl;have n0:=(show vb W4 w.heap.size 75 (ftc f) from zu HF10).cell (m:=0) rfl;have HS4:=hide (Nat.le_trans hB (zu HT10).size);have HOL:=hide (show (onm fs D.done).length = nd by rw [onm_len];exact zu HND);refine Go.Code.wp_mono (Only.to (fun _ _ h => h)) (do31 HQ1 HOL (hide n0) hg hgf hgb h1 h2 (zu HS4) hnd' ?_);intro t163 t164 W9 hq2 hk2 ht2';have hr2:=hk2 _ _ _ _ _ _ (zu HR10) (by decide) (by omega);have ht2:=(zu HT10).trans ht2';clear hk2 ht2' k4 n0 HQ1 HF10 HR10 HT10 HS4 HOL
     have HDL:=hide (show (D.done ++ [i]).length = nd + 1 by rw [List.length_append,zu HND];rfl);have HQ2:=hide hq2;have HR2:=hide hr2;have HT2:=hide ht2;have kdv : (kdF fs f == 1) = decide (kdF fs f = 1):=by rw [Bool.eq_iff_iff];simp
     have HKD:=hide kdv;have HFIL:=hide (fun (W : World) vd vo (b : Bx) (v : Bool) (m : Nat) (c : Cs) (hq : Mq W B (some ⟨p,po,none⟩) n cu g gf gb vd vo (D.done ++ [i]) (onm fs D.done ++ [f.nm]) c) hb => fill_any g gf gb (.slice (some ⟨p,po,none⟩) n cu) vd vo 13824 13824 b v m c W hq.blk hq.cs h1 h2 h3 hb);clear hq2 hr2 ht2 kdv;go_wp2_with fail
     go_loopw [15] (fun s15 W => ∃ j : Nat,s15 = .int .i64 (j : Int) ∧ j ≤ k ∧ Mq W B (some ⟨p,po,none⟩) n cu g gf gb (.slice ud9 (nd + 1) cd9) t164 (D.done ++ [i]) (onm fs D.done ++ [f.nm]) ((l.take j).foldl (fun c b => fil b (kdF fs f == 1) (nd + 1) c) D.cs) ∧ W.ownsRow (w.heap.size + 1) 41 6 (.slice um k cm) k (flatG bxc l) ∧ Th g gf gb B w W) (fun s15 _ => k - (intOf s15).toNat)
     case atStart => exact ⟨0,rfl,Nat.zero_le _,zu HQ2,zu HR2,zu HT2⟩
     case round =>
      clear HQ2 HR2 HT2;obtain ⟨j,rfl,hj,hq,hr,ht⟩:=hrel;have HQ:=hide hq;have HR:=hide hr;have HT:=hide ht
      by_cases h : j < k
      ·have jz : decide ((j : Int) < (k : Int)) = true:=dt (by omega)
       have wj : IntKind.i64.wrap ((j : Int) + 1) = ((j + 1 : Nat) : Int):=(wrap_i (by omega) (by omega)).trans (by simp);obtain ⟨b,hbj⟩:=get_some (zu HLN) h;obtain ⟨gx,rfl,hxB,hxl,hx⟩:=own_rowc bxc_len hr (by omega);have HTK:=hide (fil_take (v:=(kdF fs f == 1)) (m:=nd + 1) (c:=D.cs) hbj);have hbo : bxOk b = true:=zu HALL j b h hbj;have HBO:=hide hbo
       obtain ⟨c0,hc0⟩ : ∃ c,(l.take j).foldl (fun c b => fil b (kdF fs f == 1) (nd + 1) c) D.cs = c:=⟨_,rfl⟩
       rw [hc0] at HQ HTK;have HJ:=hide h;have HXB:=hide hxB;have HXL:=hide hxl;have y0:=hx j _ hbj 0 _ rfl;have y1:=hx j _ hbj 1 _ rfl;have y2:=hx j _ hbj 2 _ rfl;have y3:=hx j _ hbj 3 _ rfl;have y4:=hx j _ hbj 4 _ rfl;have y5:=hx j _ hbj 5 _ rfl;rw [Nat.add_zero] at y0;have HY0:=hide y0;have HY1:=hide y1;have HY2:=hide y2;have HY3:=hide y3;have HY4:=hide y4;have HY5:=hide y5;clear hx hbj hc0 hq hr ht y0 y1 y2 y3 y4 y5 hxB hxl hbo
       go_upto_region 35 with fail
       refine Go.Code.wp_mono (Only.to (fun _ _ h => h)) (do35 (nd:=nd + 1) (Z_:=fun w' => CsM w' gf gb (fil b (kdF fs f == 1) (nd + 1) c0) ∧ Tw gf gb wr w') (hide ((zu HQ).blk.cell (m:=1) rfl)) HY0 HY1 HY2 HY3 HY4 HY5 HJ (hide fun X hX => (zu HFIL X _ _ b (kdF fs f == 1) (nd + 1) c0 ((zu HQ).bel hX) (zu HBO)).mono (by rintro e w' ⟨rfl,hc,ht⟩;exact ⟨rfl,hc,(Tw.of_bel hX).trans ht⟩)) ?_);rintro W9 ⟨hc9,ht9⟩;have HQ9:=hide ((zu HQ).fill hc9 ht9 hgf hgb h1 h2)
       have HR9:=hide (own_kept (zu HR) fun q hq => by
        simp only [Value.ownBlock,Option.some.injEq] at hq;subst hq;have:=zu HXB
        exact ht9.block gx (zu HXL) (by omega) (by omega))
       have HT9:=hide ((zu HT).trans (Th.of_tw ht9 (Nat.le_trans hB (zu HT).size)));clear hc9 ht9;go_wp2_with fail;go_roundw
       case rel => exact ⟨j + 1,rfl,by have:=zu HJ;omega,by rw [zu HTK];exact zu HQ9,zu HR9,zu HT9⟩
       case measure => have:=zu HJ;simp only [intOf];omega
      ·obtain rfl : j = k:=by omega
       have jz : decide ((j : Int) < (j : Int)) = false:=df (by omega)
       have hE : ∀ W v,Below wr.heap.size wr W → SRow W w.heap.size v [] → DoAns fs D i w B (some ⟨p,po,none⟩) n cu g gf gb (.returned (.tuple #[.int .i64 0,v])) W:=by
        intro W v hbW hv;unfold DoAns;rw [zu HD];have hq9:=(zu HQ).bel hbW;rw [List.take_of_length_le (by rw [zu HLN];exact Nat.le_refl _),zu HKD,← zu HND,show onm fs D.done ++ [f.nm] = onm fs (D.done ++ [i]) by rw [onm_app,zu HGD]] at hq9;obtain ⟨_,_,_,_,_,_,hmd⟩:=hq9.m;exact ⟨⟨v,rfl,hv⟩,⟨_,_,_,_,hmd⟩,(zu HT).trans (Th.of_bel (hbW.mono (Nat.le_trans hB (zu HT).size)))⟩
       have HE:=hide hE;have HSW:=hide (zu HT).size;clear hE hq hr ht;go_wp2_with fail;refine bodyPost_ret (v:=.tuple #[.int .i64 0,.slice (some ⟨wr.heap.size,0,none⟩) 0 0]) (by simp [results,Tryz.results78,go_sem]) rfl ?_;exact zu HE _ _ (ba (bfl _ _) _) (own_made _ 9 _ 1 (zu HSW) _ rfl)
end Go.Proofs.YtkiplmabjeadgaaGreat
