/- Loops over functions, once more: what a round keeps is told block by block; loops within a round of another one. -/
import Derived.Test.YtkiplmabjeadgaaGreatRunesR
import Derived.Test.YtkiplmabjeadgaaGreatBpR3R
namespace Go.Proofs.YtkiplmabjeadgaaGreat
set_option maxRecDepth 100000
set_option maxHeartbeats 16000000
open Go.ChangeShapes Go.WideShapes Go.ChangeAt Go.RowKit
set_option linter.unusedVariables false
set_option linter.unusedSimpArgs false
noncomputable def rg78 (id : Nat) : Go.Code:=match Tryz.f78.body with | some c => (regOfZ id c).getD .skip | none => .skip
theorem do5 {s1 s2 s3 s4 s5 s7 s8 s9 s10 s11 s12 s13 s14 s15 s16 s17 s18 s19 s20 s21 s22 s23 s24 s25 s26 s27 s28 s29 s30 s31 s32 s33 s34 s35 s36 s37 s38 s39 s40 s41 s42 s43 s44 s45 s46 s47 s48 s49 s50 s51 s52 s53 s54 s55 s56 s57 s58 s59 s60 s61 s62 s63 s64 s65 s66 s67 s68 s69 s70 s71 s72 s73 s74 s75 s76 s77 s78 s79 s80 s81 s82 s83 s84 s85 s86 s87 s88 s89 s90 s91 s92 s93 s94 s95 s96 s97 s98 s99 s100 s101 s102 s103 s104 s105 s106 s107 s108 s109 s110 s111 s112 s113 s114 s115 s116 s117 s118 s119 s120 s121 s122 s123 s124 s125 s126 s127 s128 s129 s130 s131 s132 s133 s134 s135 s136 s137 s138 s139 s140 s141 s142 s143 s144 s145 s146 s147 s148 s149 s150 s151 s152 s153 s154 s155 s156 s157 s158 s159 s160 s161 s162 s163 s164 s165 s166 s167 s168 s169 s170 s171 s172 s173 s174 s175 s176 s177 s178 s179 s180 s181 s182 s183 s184 s185 s186 : Value} {g gF p po nn cu dd : Nat} {ov : ByteArray} {a0 a1 a2 : ByteArray} {a3 a4 a5 a6 a7 a8 a9 a10 a11 a12 a13 a14 : Int} {V : World} {K_ : Act → World → Prop}
  (HG0 : Hid (V.cell? ⟨g,0,none⟩ = some (.slice (some ⟨p,po,none⟩) nn cu))) (HOV : Hid (V.cell? ⟨gF,2,none⟩ = some (.string ov))) (HC0 : Hid (V.cell? ⟨p,po + dd * 15,none⟩ = some (.string a0))) (HC1 : Hid (V.cell? ⟨p,po + dd * 15 + 1,none⟩ = some (.string a1))) (HC2 : Hid (V.cell? ⟨p,po + dd * 15 + 2,none⟩ = some (.string a2))) (HC3 : Hid (V.cell? ⟨p,po + dd * 15 + 3,none⟩ = some (.int .i64 (a3)))) (HC4 : Hid (V.cell? ⟨p,po + dd * 15 + 4,none⟩ = some (.int .i64 (a4)))) (HC5 : Hid (V.cell? ⟨p,po + dd * 15 + 5,none⟩ = some (.int .i64 (a5)))) (HC6 : Hid (V.cell? ⟨p,po + dd * 15 + 6,none⟩ = some (.int .i64 (a6)))) (HC7 : Hid (V.cell? ⟨p,po + dd * 15 + 7,none⟩ = some (.int .i64 (a7)))) (HC8 : Hid (V.cell? ⟨p,po + dd * 15 + 8,none⟩ = some (.int .i64 (a8)))) (HC9 : Hid (V.cell? ⟨p,po + dd * 15 + 9,none⟩ = some (.int .i64 (a9)))) (HC10 : Hid (V.cell? ⟨p,po + dd * 15 + 10,none⟩ = some (.int .i64 (a10)))) (HC11 : Hid (V.cell? ⟨p,po + dd * 15 + 11,none⟩ = some (.int .i64 (a11)))) (HC12 : Hid (V.cell? ⟨p,po + dd * 15 + 12,none⟩ = some (.int .i64 (a12)))) (HC13 : Hid (V.cell? ⟨p,po + dd * 15 + 13,none⟩ = some (.int .i64 (a13)))) (HC14 : Hid (V.cell? ⟨p,po + dd * 15 + 14,none⟩ = some (.int .i64 (a14))))
  (HF10 : Hid (∀ Xw,Below V.heap.size V Xw → Calls Tryz.prog 75 #[.slice (some ⟨p,po,none⟩) nn cu,.string ov] Xw fun e w' => e = .returned (.int .i64 (dd : Int)) ∧ Below Xw.heap.size Xw w'))
  (HX11 : Hid (dd < nn))
  (hQ : ∀ (n13 : Nat)  (W1 : World),Below V.heap.size V W1 → vb W1 n13 75 [.string a0,.string a1,.string a2,.int .i64 (a3),.int .i64 (a4),.int .i64 (a5),.int .i64 (a6),.int .i64 (a7),.int .i64 (a8),.int .i64 (a9),.int .i64 (a10),.int .i64 (a11),.int .i64 (a12),.int .i64 (a13),.int .i64 (a14)] → V.heap.size ≤ n13 → K_ { tmps:=#[.pointer (some ⟨g,0,none⟩),s1,s2,s3,s4,s5,.pointer (some ⟨gF,0,none⟩),s7,s8,.pointer (some ⟨n13,0,none⟩),s10,s11,s12,s13,s14,s15,s16,s17,s18,s19,s20,s21,s22,s23,s24,s25,s26,s27,s28,s29,s30,.pointer (some ⟨g,0,none⟩),.pointer (some ⟨g,0,none⟩),.pointer (some ⟨g,0,none⟩),.slice (some ⟨p,po,none⟩) nn cu,.pointer (some ⟨g,0,none⟩),.pointer (some ⟨g,0,none⟩),.pointer (some ⟨g,0,none⟩),.slice (some ⟨p,po,none⟩) nn cu,.pointer (some ⟨gF,2,none⟩),.string ov,.int .i64 (dd : Int),.pointer (some ⟨p,po + dd * 15,none⟩),.agg #[.string a0,.string a1,.string a2,.int .i64 (a3),.int .i64 (a4),.int .i64 (a5),.int .i64 (a6),.int .i64 (a7),.int .i64 (a8),.int .i64 (a9),.int .i64 (a10),.int .i64 (a11),.int .i64 (a12),.int .i64 (a13),.int .i64 (a14)],s44,s45,s46,s47,s48,s49,s50,s51,s52,s53,s54,s55,s56,s57,s58,s59,s60,s61,s62,s63,s64,s65,s66,s67,s68,s69,s70,s71,s72,s73,s74,s75,s76,s77,s78,s79,s80,s81,s82,s83,s84,s85,s86,s87,s88,s89,s90,s91,s92,s93,s94,s95,s96,s97,s98,s99,s100,s101,s102,s103,s104,s105,s106,s107,s108,s109,s110,s111,s112,s113,s114,s115,s116,s117,s118,s119,s120,s121,s122,s123,s124,s125,s126,s127,s128,s129,s130,s131,s132,s133,s134,s135,s136,s137,s138,s139,s140,s141,s142,s143,s144,s145,s146,s147,s148,s149,s150,s151,s152,s153,s154,s155,s156,s157,s158,s159,s160,s161,s162,s163,s164,s165,s166,s167,s168,s169,s170,s171,s172,s173,s174,s175,s176,s177,s178,s179,s180,s181,s182,s183,s184,s185,s186],defers:=[] } W1) :
  Go.Code.wp Tryz.prog (rg78 5) (Only K_) { tmps:=#[.pointer (some ⟨g,0,none⟩),s1,s2,s3,s4,s5,.pointer (some ⟨gF,0,none⟩),s7,s8,s9,s10,s11,s12,s13,s14,s15,s16,s17,s18,s19,s20,s21,s22,s23,s24,s25,s26,s27,s28,s29,s30,s31,s32,s33,s34,s35,s36,s37,s38,s39,s40,s41,s42,s43,s44,s45,s46,s47,s48,s49,s50,s51,s52,s53,s54,s55,s56,s57,s58,s59,s60,s61,s62,s63,s64,s65,s66,s67,s68,s69,s70,s71,s72,s73,s74,s75,s76,s77,s78,s79,s80,s81,s82,s83,s84,s85,s86,s87,s88,s89,s90,s91,s92,s93,s94,s95,s96,s97,s98,s99,s100,s101,s102,s103,s104,s105,s106,s107,s108,s109,s110,s111,s112,s113,s114,s115,s116,s117,s118,s119,s120,s121,s122,s123,s124,s125,s126,s127,s128,s129,s130,s131,s132,s133,s134,s135,s136,s137,s138,s139,s140,s141,s142,s143,s144,s145,s146,s147,s148,s149,s150,s151,s152,s153,s154,s155,s156,s157,s158,s159,s160,s161,s162,s163,s164,s165,s166,s167,s168,s169,s170,s171,s172,s173,s174,s175,s176,s177,s178,s179,s180,s181,s182,s183,s184,s185,s186],defers:=[] } V:=by
 have HQ:=hide hQ;clear hQ
 conv => arg 2;whnf
 refine wp_region_inv2 (fun Lb A W => ∃ (u0 u1 u2 u3 u4 u5 u6 u7 u8 u9 u10 u11 u12 u13 u14 : Bool) (n13 : Nat),Lb = #[u0,u1,u2,u3,u4,u5,u6,u7,u8,u9,u10,u11,u12,u13,u14] ∧ A = ({ tmps:=#[.pointer (some ⟨g,0,none⟩),s1,s2,s3,s4,s5,.pointer (some ⟨gF,0,none⟩),s7,s8,(bif u13 then .pointer (some ⟨n13,0,none⟩) else s9),s10,s11,s12,s13,s14,s15,s16,s17,s18,s19,s20,s21,s22,s23,s24,s25,s26,s27,s28,s29,s30,(bif u0 then .pointer (some ⟨g,0,none⟩) else s31),(bif u1 then .pointer (some ⟨g,0,none⟩) else s32),(bif u2 then .pointer (some ⟨g,0,none⟩) else s33),(bif u3 then .slice (some ⟨p,po,none⟩) nn cu else s34),(bif u4 then .pointer (some ⟨g,0,none⟩) else s35),(bif u5 then .pointer (some ⟨g,0,none⟩) else s36),(bif u6 then .pointer (some ⟨g,0,none⟩) else s37),(bif u7 then .slice (some ⟨p,po,none⟩) nn cu else s38),(bif u8 then .pointer (some ⟨gF,2,none⟩) else s39),(bif u9 then .string ov else s40),(bif u10 then .int .i64 (dd : Int) else s41),(bif u11 then .pointer (some ⟨p,po + dd * 15,none⟩) else s42),(bif u12 then .agg #[.string a0,.string a1,.string a2,.int .i64 (a3),.int .i64 (a4),.int .i64 (a5),.int .i64 (a6),.int .i64 (a7),.int .i64 (a8),.int .i64 (a9),.int .i64 (a10),.int .i64 (a11),.int .i64 (a12),.int .i64 (a13),.int .i64 (a14)] else s43),s44,s45,s46,s47,s48,s49,s50,s51,s52,s53,s54,s55,s56,s57,s58,s59,s60,s61,s62,s63,s64,s65,s66,s67,s68,s69,s70,s71,s72,s73,s74,s75,s76,s77,s78,s79,s80,s81,s82,s83,s84,s85,s86,s87,s88,s89,s90,s91,s92,s93,s94,s95,s96,s97,s98,s99,s100,s101,s102,s103,s104,s105,s106,s107,s108,s109,s110,s111,s112,s113,s114,s115,s116,s117,s118,s119,s120,s121,s122,s123,s124,s125,s126,s127,s128,s129,s130,s131,s132,s133,s134,s135,s136,s137,s138,s139,s140,s141,s142,s143,s144,s145,s146,s147,s148,s149,s150,s151,s152,s153,s154,s155,s156,s157,s158,s159,s160,s161,s162,s163,s164,s165,s166,s167,s168,s169,s170,s171,s172,s173,s174,s175,s176,s177,s178,s179,s180,s181,s182,s183,s184,s185,s186],defers:=[] } : Act) ∧ Below V.heap.size V W ∧ (u13 = true → vb W n13 75 (bif u14 then [.string a0,.string a1,.string a2,.int .i64 (a3),.int .i64 (a4),.int .i64 (a5),.int .i64 (a6),.int .i64 (a7),.int .i64 (a8),.int .i64 (a9),.int .i64 (a10),.int .i64 (a11),.int .i64 (a12),.int .i64 (a13),.int .i64 (a14)] else [.string ⟨#[]⟩,.string ⟨#[]⟩,.string ⟨#[]⟩,.int .i64 (0),.int .i64 (0),.int .i64 (0),.int .i64 (0),.int .i64 (0),.int .i64 (0),.int .i64 (0),.int .i64 (0),.int .i64 (0),.int .i64 (0),.int .i64 (0),.int .i64 (0)]) ∧ V.heap.size ≤ n13) ∧ (u14 = true → u0 = true ∧ u1 = true ∧ u2 = true ∧ u3 = true ∧ u4 = true ∧ u5 = true ∧ u6 = true ∧ u7 = true ∧ u8 = true ∧ u9 = true ∧ u10 = true ∧ u11 = true ∧ u12 = true ∧ u13 = true)) (by kernel_rfl) (by kernel_rfl) ?h0 ?hstep ?hend
 case h0 =>
  exact ⟨false,false,false,false,false,false,false,false,false,false,false,false,false,false,false,0,rfl,rfl,Below.drew (bfl _ _),zf,zf⟩
 case hstep =>
  intro Lb A W hI;obtain ⟨u0,u1,u2,u3,u4,hI⟩:=hI;obtain ⟨u5,u6,u7,u8,u9,hI⟩:=hI;obtain ⟨u10,u11,u12,u13,u14,hI⟩:=hI;obtain ⟨n13,hI⟩:=hI;obtain ⟨hLb,hI⟩:=hI;obtain ⟨hA,hI⟩:=hI;obtain ⟨kB,hI⟩:=hI;obtain ⟨k13,hI⟩:=hI;have kF:=hI;clear hI;subst hLb;subst hA;replace kB:=hide kB;replace k13:=hide k13;replace kF:=hide kF;refine ⟨?_,?_,?_,?_,?_,?_,?_,?_,?_,?_,?_,?_,?_,?_,?_,trivial⟩
  ·intro h0 hd K hK
   have z : u0 = false:=h0;have z14_ : u14 = false:=znb fun hu => z.symm.trans ((zu kF hu).1)
   subst z14_;subst z;clear h0 hd;rw [if_pos (by rfl)];go_simp;exact zu hK _ _ ⟨true,u1,u2,u3,u4,u5,u6,u7,u8,u9,u10,u11,u12,u13,false,n13,rfl,rfl,zu kB,zu k13,zf⟩
  ·intro h0 hd K hK
   have z : u1 = false:=h0;have z14_ : u14 = false:=znb fun hu => z.symm.trans ((zu kF hu).2.1)
   obtain ⟨rfl⟩ : u0 = true:=by simp [Region.binds] at hd;simp [hd]
   subst z14_;subst z;clear h0 hd;rw [if_pos (by rfl)];go_simp;exact zu hK _ _ ⟨true,true,u2,u3,u4,u5,u6,u7,u8,u9,u10,u11,u12,u13,false,n13,rfl,rfl,zu kB,zu k13,zf⟩
  ·intro h0 hd K hK
   have z : u2 = false:=h0;have z14_ : u14 = false:=znb fun hu => z.symm.trans ((zu kF hu).2.2.1)
   obtain ⟨rfl⟩ : u1 = true:=by simp [Region.binds] at hd;simp [hd]
   subst z14_;subst z;clear h0 hd;rw [if_pos (by rfl)];go_simp;exact zu hK _ _ ⟨u0,true,true,u3,u4,u5,u6,u7,u8,u9,u10,u11,u12,u13,false,n13,rfl,rfl,zu kB,zu k13,zf⟩
  ·intro h0 hd K hK
   have z : u3 = false:=h0;have z14_ : u14 = false:=znb fun hu => z.symm.trans ((zu kF hu).2.2.2.1)
   obtain ⟨rfl⟩ : u2 = true:=by simp [Region.binds] at hd;simp [hd]
   subst z14_;subst z;clear h0 hd;rw [if_pos (by rfl)];have c0:=keep1 (zu kB) (zu HG0);go_simp;exact zu hK _ _ ⟨u0,u1,true,true,u4,u5,u6,u7,u8,u9,u10,u11,u12,u13,false,n13,rfl,rfl,zu kB,zu k13,zf⟩
  ·intro h0 hd K hK
   have z : u4 = false:=h0;have z14_ : u14 = false:=znb fun hu => z.symm.trans ((zu kF hu).2.2.2.2.1)
   subst z14_;subst z;clear h0 hd;rw [if_pos (by rfl)];go_simp;exact zu hK _ _ ⟨u0,u1,u2,u3,true,u5,u6,u7,u8,u9,u10,u11,u12,u13,false,n13,rfl,rfl,zu kB,zu k13,zf⟩
  ·intro h0 hd K hK
   have z : u5 = false:=h0;have z14_ : u14 = false:=znb fun hu => z.symm.trans ((zu kF hu).2.2.2.2.2.1)
   obtain ⟨rfl⟩ : u4 = true:=by simp [Region.binds] at hd;simp [hd]
   subst z14_;subst z;clear h0 hd;rw [if_pos (by rfl)];go_simp;exact zu hK _ _ ⟨u0,u1,u2,u3,true,true,u6,u7,u8,u9,u10,u11,u12,u13,false,n13,rfl,rfl,zu kB,zu k13,zf⟩
  ·intro h0 hd K hK
   have z : u6 = false:=h0;have z14_ : u14 = false:=znb fun hu => z.symm.trans ((zu kF hu).2.2.2.2.2.2.1)
   obtain ⟨rfl⟩ : u5 = true:=by simp [Region.binds] at hd;simp [hd]
   subst z14_;subst z;clear h0 hd;rw [if_pos (by rfl)];go_simp;exact zu hK _ _ ⟨u0,u1,u2,u3,u4,true,true,u7,u8,u9,u10,u11,u12,u13,false,n13,rfl,rfl,zu kB,zu k13,zf⟩
  ·intro h0 hd K hK
   have z : u7 = false:=h0;have z14_ : u14 = false:=znb fun hu => z.symm.trans ((zu kF hu).2.2.2.2.2.2.2.1)
   obtain ⟨rfl⟩ : u6 = true:=by simp [Region.binds] at hd;simp [hd]
   subst z14_;subst z;clear h0 hd;rw [if_pos (by rfl)];have c0:=keep1 (zu kB) (zu HG0);go_simp;exact zu hK _ _ ⟨u0,u1,u2,u3,u4,u5,true,true,u8,u9,u10,u11,u12,u13,false,n13,rfl,rfl,zu kB,zu k13,zf⟩
  ·intro h0 hd K hK
   have z : u8 = false:=h0;have z14_ : u14 = false:=znb fun hu => z.symm.trans ((zu kF hu).2.2.2.2.2.2.2.2.1)
   subst z14_;subst z;clear h0 hd;rw [if_pos (by rfl)];go_simp;exact zu hK _ _ ⟨u0,u1,u2,u3,u4,u5,u6,u7,true,u9,u10,u11,u12,u13,false,n13,rfl,rfl,zu kB,zu k13,zf⟩
  ·intro h0 hd K hK
   have z : u9 = false:=h0;have z14_ : u14 = false:=znb fun hu => z.symm.trans ((zu kF hu).2.2.2.2.2.2.2.2.2.1)
   obtain ⟨rfl⟩ : u8 = true:=by simp [Region.binds] at hd;simp [hd]
   subst z14_;subst z;clear h0 hd;rw [if_pos (by rfl)];have c0:=keep1 (zu kB) (zu HOV);go_simp;exact zu hK _ _ ⟨u0,u1,u2,u3,u4,u5,u6,u7,true,true,u10,u11,u12,u13,false,n13,rfl,rfl,zu kB,zu k13,zf⟩
  ·intro h0 hd K hK
   have z : u10 = false:=h0;have z14_ : u14 = false:=znb fun hu => z.symm.trans ((zu kF hu).2.2.2.2.2.2.2.2.2.2.1)
   obtain ⟨rfl,rfl⟩ : u7 = true ∧ u9 = true:=by simp [Region.binds] at hd;simp [hd]
   subst z14_;subst z;clear h0 hd;rw [if_pos (by rfl)];go_simp;refine (zu HF10 W (zu kB)).mono ?_;rintro e w8 ⟨rfl,hb8⟩;exact zu hK _ _ ⟨u0,u1,u2,u3,u4,u5,u6,true,u8,true,true,u11,u12,u13,false,n13,rfl,rfl,bc (zu kB) hb8,(fun h => ⟨(zu k13 h).1.bel hb8,(zu k13 h).2⟩),zf⟩
  ·intro h0 hd K hK
   have z : u11 = false:=h0;have z14_ : u14 = false:=znb fun hu => z.symm.trans ((zu kF hu).2.2.2.2.2.2.2.2.2.2.2.1)
   obtain ⟨rfl,rfl⟩ : u3 = true ∧ u10 = true:=by simp [Region.binds] at hd;simp [hd]
   subst z14_;subst z;clear h0 hd;rw [if_pos (by rfl)];have q1 : dd < nn:=zu HX11;have q2 : (dd : Int) < (nn : Int):=by omega
   go_simp;exact zu hK _ _ ⟨u0,u1,u2,true,u4,u5,u6,u7,u8,u9,true,true,u12,u13,false,n13,rfl,rfl,zu kB,zu k13,zf⟩
  ·intro h0 hd K hK
   have z : u12 = false:=h0;have z14_ : u14 = false:=znb fun hu => z.symm.trans ((zu kF hu).2.2.2.2.2.2.2.2.2.2.2.2.1)
   obtain ⟨rfl⟩ : u11 = true:=by simp [Region.binds] at hd;simp [hd]
   subst z14_;subst z;clear h0 hd;rw [if_pos (by rfl)];have c0:=keep1 (zu kB) (zu HC0);have c1:=keep1 (zu kB) (zu HC1);have c2:=keep1 (zu kB) (zu HC2);have c3:=keep1 (zu kB) (zu HC3);have c4:=keep1 (zu kB) (zu HC4);have c5:=keep1 (zu kB) (zu HC5);have c6:=keep1 (zu kB) (zu HC6);have c7:=keep1 (zu kB) (zu HC7);have c8:=keep1 (zu kB) (zu HC8);have c9:=keep1 (zu kB) (zu HC9);have c10:=keep1 (zu kB) (zu HC10);have c11:=keep1 (zu kB) (zu HC11);have c12:=keep1 (zu kB) (zu HC12);have c13:=keep1 (zu kB) (zu HC13);have c14:=keep1 (zu kB) (zu HC14);go_simp
   exact zu hK _ _ ⟨u0,u1,u2,u3,u4,u5,u6,u7,u8,u9,u10,true,true,u13,false,n13,rfl,rfl,zu kB,zu k13,zf⟩
  ·intro h0 hd K hK
   have z : u13 = false:=h0;have z14_ : u14 = false:=znb fun hu => z.symm.trans ((zu kF hu).2.2.2.2.2.2.2.2.2.2.2.2.2)
   subst z14_;subst z;clear h0 hd;rw [if_pos (by rfl)];go_simp;exact zu hK _ _ ⟨u0,u1,u2,u3,u4,u5,u6,u7,u8,u9,u10,u11,u12,true,false,W.heap.size,rfl,rfl,ba (zu kB) _,(fun _ => ⟨vb_new W 75 _ _ rfl,(zu kB).size⟩),zf⟩
  ·intro h0 hd K hK
   have z : u14 = false:=h0
   have zd0 : u0 = true ∧ u1 = true ∧ u2 = true ∧ u3 = true ∧ u4 = true ∧ u5 = true ∧ u6 = true ∧ u7 = true ∧ u8 = true ∧ u9 = true ∧ u10 = true ∧ u11 = true ∧ u12 = true ∧ u13 = true:=by
    simp [Region.binds] at hd;simp [hd]
   have zd : u0 = true ∧ u1 = true ∧ u2 = true ∧ u3 = true ∧ u4 = true ∧ u5 = true ∧ u6 = true ∧ u7 = true ∧ u8 = true ∧ u9 = true ∧ u10 = true ∧ u11 = true ∧ u12 = true ∧ u13 = true:=⟨zd0.1,zd0.2.1,zd0.2.2.1,zd0.2.2.2.1,zd0.2.2.2.2.1,zd0.2.2.2.2.2.1,zd0.2.2.2.2.2.2.1,zd0.2.2.2.2.2.2.2.1,zd0.2.2.2.2.2.2.2.2.1,zd0.2.2.2.2.2.2.2.2.2.1,zd0.2.2.2.2.2.2.2.2.2.2.1,zd0.2.2.2.2.2.2.2.2.2.2.2.1,zd0.2.2.2.2.2.2.2.2.2.2.2.2.1,zd0.2.2.2.2.2.2.2.2.2.2.2.2.2⟩
   obtain ⟨rfl,rfl,rfl,rfl,rfl,rfl,rfl,rfl,rfl,rfl,rfl,rfl,rfl,rfl⟩:=zd;subst z;clear h0 hd;rw [if_pos (by rfl)];have v1:=(zu k13 rfl).1;have g9:=(zu k13 rfl).2;have fz:=v1.frozen;have q0:=v1.cell (m:=0) rfl;have q1:=v1.cell (m:=1) rfl;have q2:=v1.cell (m:=2) rfl;have q3:=v1.cell (m:=3) rfl;have q4:=v1.cell (m:=4) rfl;have q5:=v1.cell (m:=5) rfl;have q6:=v1.cell (m:=6) rfl;have q7:=v1.cell (m:=7) rfl;have q8:=v1.cell (m:=8) rfl;have q9:=v1.cell (m:=9) rfl;have q10:=v1.cell (m:=10) rfl;have q11:=v1.cell (m:=11) rfl
   have q12:=v1.cell (m:=12) rfl;have q13:=v1.cell (m:=13) rfl;have q14:=v1.cell (m:=14) rfl;have HV1:=hide v1;clear v1;go_simp
   exact zu hK _ _ ⟨true,true,true,true,true,true,true,true,true,true,true,true,true,true,true,n13,rfl,rfl,(((((((((((((((((((((((((((((((zu kB)).setCell (p:=⟨n13,0,none⟩) g9 _)).setCell (p:=⟨n13,1,none⟩) g9 _)).setCell (p:=⟨n13,2,none⟩) g9 _)).setCell (p:=⟨n13,3,none⟩) g9 _)).setCell (p:=⟨n13,4,none⟩) g9 _)).setCell (p:=⟨n13,5,none⟩) g9 _)).setCell (p:=⟨n13,6,none⟩) g9 _)).setCell (p:=⟨n13,7,none⟩) g9 _)).setCell (p:=⟨n13,8,none⟩) g9 _)).setCell (p:=⟨n13,9,none⟩) g9 _)).setCell (p:=⟨n13,10,none⟩) g9 _)).setCell (p:=⟨n13,11,none⟩) g9 _)).setCell (p:=⟨n13,12,none⟩) g9 _)).setCell (p:=⟨n13,13,none⟩) g9 _)).setCell (p:=⟨n13,14,none⟩) g9 _),(fun _ => ⟨((((((((((((((((zu HV1).set 0 _).set 1 _).set 2 _).set 3 _).set 4 _).set 5 _).set 6 _).set 7 _).set 8 _).set 9 _).set 10 _).set 11 _).set 12 _).set 13 _).set 14 _),g9⟩),(fun _ => ⟨rfl,rfl,rfl,rfl,rfl,rfl,rfl,rfl,rfl,rfl,rfl,rfl,rfl,rfl⟩)⟩
 case hend =>
  intro Lb A W hI;obtain ⟨u0,u1,u2,u3,u4,hI⟩:=hI;obtain ⟨u5,u6,u7,u8,u9,hI⟩:=hI;obtain ⟨u10,u11,u12,u13,u14,hI⟩:=hI;obtain ⟨n13,hI⟩:=hI;obtain ⟨hLb,hI⟩:=hI;obtain ⟨hA,hI⟩:=hI;obtain ⟨kB,hI⟩:=hI;obtain ⟨k13,hI⟩:=hI;have kF:=hI;clear hI;subst hLb;subst hA;intro hL
  have hl : u0 = true ∧ u1 = true ∧ u2 = true ∧ u3 = true ∧ u4 = true ∧ u5 = true ∧ u6 = true ∧ u7 = true ∧ u8 = true ∧ u9 = true ∧ u10 = true ∧ u11 = true ∧ u12 = true ∧ u13 = true ∧ u14 = true:=by
   have h2:=congrArg Array.toList hL
   simpa [List.replicate] using h2
  obtain ⟨rfl,rfl,rfl,rfl,rfl,rfl,rfl,rfl,rfl,rfl,rfl,rfl,rfl,rfl,rfl⟩:=hl;exact zu HQ n13  W kB (k13 rfl).1 (k13 rfl).2
def flatG {α : Type} (c : α → List Value) : List α → List Value
 | [] => []
 | a :: l => c a ++ flatG c l
theorem flatG_len {α : Type} {c : α → List Value} {k : Nat} (hc : ∀ a,(c a).length = k) (l : List α) : (flatG c l).length = l.length * k:=by
 induction l with
 | nil => simp [flatG]
 | cons a l ih => simp only [flatG,List.length_append,hc,ih,List.length_cons,Nat.add_mul];omega
theorem flatG_append {α : Type} (c : α → List Value) (a b : List α) : flatG c (a ++ b) = flatG c a ++ flatG c b:=by
 induction a with
 | nil => rfl
 | cons x a ih => simp [flatG,ih]
theorem flatG_at {α : Type} {c : α → List Value} {k : Nat} (hc : ∀ a,(c a).length = k) {l : List α} {i : Nat} {a : α} (h : l[i]? = some a) {j : Nat} {v : Value} (hj : (c a)[j]? = some v) : (flatG c l)[i * k + j]? = some v:=by
 induction l generalizing i with
 | nil => cases h
 | cons x l ih =>
  have hjk : j < k:=by have:=(List.getElem?_eq_some_iff.1 hj).1;rw [hc] at this;exact this
  cases i with
  | zero =>
   simp only [List.getElem?_cons_zero,Option.some.injEq] at h;subst h;simp only [Nat.zero_mul,Nat.zero_add,flatG];rw [List.getElem?_append_left (by rw [hc];exact hjk)];exact hj
  | succ i =>
   have:=ih (i:=i) (by simpa using h);simp only [flatG];rw [List.getElem?_append_right (by rw [hc,Nat.add_mul];omega),hc,show (i + 1) * k + j - k = i * k + j by rw [Nat.add_mul];omega];exact this
def setAll : List Value → Nat → List Value → List Value
 | L,_,[] => L
 | L,o,v :: vs => setAll (L.set o v) (o + 1) vs
theorem setAll_right (A L : List Value) (o : Nat) (vs : List Value) : setAll (A ++ L) (A.length + o) vs = A ++ setAll L o vs:=by
 induction vs generalizing L o with
 | nil => rfl
 | cons v vs ih =>
  simp only [setAll];rw [List.set_append,if_neg (by omega),show A.length + o - A.length = o by omega,show A.length + o + 1 = A.length + (o + 1) by omega,ih]
theorem setAll_over (A L vs : List Value) (h : vs.length = A.length) : setAll (A ++ L) 0 vs = vs ++ L:=by
 induction vs generalizing A with
 | nil => have : A = []:=List.eq_nil_of_length_eq_zero (by simpa using h.symm);subst this;rfl
 | cons v vs ih =>
  cases A with
  | nil => simp at h
  | cons x A =>
   have h2:=setAll_right [v] (A ++ L) 0 vs;simp only [List.length_singleton,Nat.add_zero,List.singleton_append] at h2;simp only [setAll,List.cons_append,List.set_cons_zero,Nat.zero_add];rw [h2,ih A (by simpa using h)]
theorem flatG_set {α : Type} {c : α → List Value} {k : Nat} (hc : ∀ a,(c a).length = k) (l : List α) (i : Nat) (a : α) (h : i < l.length) : flatG c (l.set i a) = setAll (flatG c l) (i * k) (c a):=by
 induction l generalizing i with
 | nil => simp at h
 | cons x l ih =>
  cases i with
  | zero =>
   simp only [List.set_cons_zero,flatG,Nat.zero_mul];rw [setAll_over _ _ _ (by rw [hc,hc])]
  | succ i =>
   have e:=ih i (by simpa using h);simp only [List.set_cons_succ,flatG,e];rw [show (i + 1) * k = (c x).length + i * k by rw [hc,Nat.add_mul];omega,setAll_right]
def AtG {α : Type} (c : α → List Value) (k : Nat) (w : World) (b off : Nat) (l : List α) : Prop:=∀ (i : Nat) (a : α),l[i]? = some a → ∀ (j : Nat) (v : Value),(c a)[j]? = some v → w.cell? ⟨b,off + i * k + j,none⟩ = some v
theorem AtG.below {α : Type} {c : α → List Value} {k B : Nat} {w w' : World} {b off : Nat} {l : List α} (h : AtG c k w b off l) (hb : Below B w w') (hB : b < B) : AtG c k w' b off l :=
  fun i a hi j v hj => (hb.cell (p:=⟨b,_,none⟩) hB).trans (h i a hi j v hj)
theorem AtG.blk {α : Type} {c : α → List Value} {k : Nat} {w w' : World} {b off : Nat} {l : List α} (h : AtG c k w b off l) (e : w'.heap[b]? = w.heap[b]?) : AtG c k w' b off l :=
  fun i a hi j v hj => (World.cell?_of_block (w:=w) (a:=⟨b,_,none⟩) e).trans (h i a hi j v hj)
def SlG {α : Type} (c : α → List Value) (k : Nat) (w : World) (u : Option Addr) (p po : Nat) (l : List α) : Prop:=l ≠ [] → u = some ⟨p,po,none⟩ ∧ p < w.heap.size ∧ AtG c k w p po l
theorem SlG.bel {α : Type} {c : α → List Value} {k : Nat} {w w' : World} {u : Option Addr} {p po : Nat} {l : List α} (h : SlG c k w u p po l) (hb : Below w.heap.size w w') : SlG c k w' u p po l :=
  fun h0 => ⟨(h h0).1,Nat.lt_of_lt_of_le (h h0).2.1 hb.size,(h h0).2.2.below hb (h h0).2.1⟩
theorem SlG.at {α : Type} {c : α → List Value} {k : Nat} {w : World} {u : Option Addr} {p po : Nat} {l : List α} (h : SlG c k w u p po l) {i : Nat} {a : α} (hi : l[i]? = some a) : u = some ⟨p,po,none⟩ ∧ p < w.heap.size ∧ ∀ (j : Nat) (v : Value),(c a)[j]? = some v → w.cell? ⟨p,po + i * k + j,none⟩ = some v:=by
 obtain ⟨h1,h2,h3⟩:=h (by intro e;subst e;cases hi);exact ⟨h1,h2,h3 i a hi⟩
theorem vb.atG {α : Type} {c : α → List Value} {k : Nat} (hc : ∀ a,(c a).length = k) {w : World} {g t : Nat} {l : List α} (h : vb w g t (flatG c l)) : AtG c k w g 0 l:=by
 intro i a hi j v hj;rw [Nat.zero_add];exact h.cell (flatG_at hc hi hj)
theorem vb.slG {α : Type} {c : α → List Value} {k : Nat} (hc : ∀ a,(c a).length = k) {w : World} {g t : Nat} {l : List α} (h : vb w g t (flatG c l)) : SlG c k w (some ⟨g,0,none⟩) g 0 l:=fun _ => ⟨rfl,h.lt,h.atG hc⟩
theorem own_form {w : World} {B t k : Nat} {v : Value} {n : Nat} {L : List Value} (h : w.ownsRow B t k v n L) :
  ∃ (u : Option Addr) (cap : Nat),v = .slice u n cap ∧ n ≤ cap ∧ cap ≤ maxLen ∧ (n ≠ 0 → ∃ g,u = some ⟨g,0,none⟩ ∧ B ≤ g ∧ g < w.heap.size ∧ ∀ j x,L[j]? = some x → w.cell? ⟨g,j,none⟩ = some x):=by
 rcases h.2 with ⟨rfl,rfl⟩ | ⟨g,cap,cur,rfl,hb,hh,hn,hm,hs,ht⟩
 ·exact ⟨none,0,rfl,Nat.le_refl _,by simp,fun h => absurd rfl h⟩
 ·refine ⟨_,cap,rfl,hn,hm,fun _ => ⟨g,rfl,hb,(Array.getElem?_eq_some_iff.1 hh).1,?_⟩⟩
  intro j x hj;have h1 : (cur.toList.take (n * k))[j]? = some x:=by rw [ht];exact hj
  simp only [World.cell?];rw [hh];rw [List.getElem?_take] at h1
  split at h1
  ·simpa using h1
  ·cases h1
theorem own_bel {w w' : World} {B t k : Nat} {v : Value} {n : Nat} {L : List Value} (h : w.ownsRow B t k v n L) (hb : Below w.heap.size w w') : w'.ownsRow B t k v n L:=by
 refine ⟨h.1,?_⟩
 rcases h.2 with h1 | ⟨g,cap,cur,hv,hB,hh,r⟩
 ·exact .inl h1
 ·exact .inr ⟨g,cap,cur,hv,hB,(hb.block g (Array.getElem?_eq_some_iff.1 hh).1).trans hh,r⟩
theorem own_kept {w w' : World} {B t k n : Nat} {v : Value} {L : List Value} (h : w.ownsRow B t k v n L) (hb : ∀ g,v.ownBlock = some g → w'.heap[g]? = w.heap[g]?) : w'.ownsRow B t k v n L:=by
 refine ⟨h.1,?_⟩
 rcases h.2 with h1 | ⟨g,cap,cur,hv,hB,hh,r⟩
 ·exact .inl h1
 ·exact .inr ⟨g,cap,cur,hv,hB,(hb g (by rw [hv];rfl)).trans hh,r⟩
theorem own_mono {w : World} {B B' t k : Nat} {v : Value} {n : Nat} {L : List Value} (h : w.ownsRow B t k v n L) (hb : B' ≤ B) : w.ownsRow B' t k v n L:=by
 refine ⟨h.1,?_⟩
 rcases h.2 with h1 | ⟨g,cap,cur,hv,hB,r⟩
 ·exact .inl h1
 ·exact .inr ⟨g,cap,cur,hv,Nat.le_trans hb hB,r⟩
theorem own_made (w : World) (t B k : Nat) (hb : B ≤ w.heap.size) (g : Nat) (hg : g = w.heap.size) : (w.alloc (.cells #[] t)).ownsRow B t k (.slice (some ⟨g,0,none⟩) 0 0) 0 []:=by
 subst hg;exact World.ownsRow_made w #[] 0 hb (by decide) (by simp)
theorem own_nil (w : World) (t B k : Nat) : w.ownsRow B t k (.slice none 0 0) 0 []:=⟨by simp,.inl ⟨rfl,rfl⟩⟩
theorem own_ge {w : World} {B t k : Nat} {v : Value} {n : Nat} {L : List Value} (h : w.ownsRow B t k v n L) : ∀ g,v.ownBlock = some g → B ≤ g ∧ g < w.heap.size:=by
 intro g hg
 rcases h.2 with ⟨rfl,_⟩ | ⟨g',cap,cur,rfl,hB,hh,r⟩
 ·cases hg
 ·simp only [Value.ownBlock,Option.some.injEq] at hg
  subst hg;exact ⟨hB,(Array.getElem?_eq_some_iff.1 hh).1⟩
theorem vb.owns {w : World} {B g t n : Nat} {L : List Value} (h : vb w g t L) (hB : B ≤ g) (hl : L.length = n) (hn : n ≤ maxLen) : w.ownsRow B t 1 (.slice (some ⟨g,0,none⟩) n n) n L :=
  ⟨by omega,.inr ⟨g,n,L.toArray,rfl,hB,h,Nat.le_refl _,hn,by simp [hl],by simp [← hl]⟩⟩
theorem own_set {w : World} {B t k g n cap : Nat} {L : List Value} (h : w.ownsRow B t k (.slice (some ⟨g,0,none⟩) n cap) n L) (j : Nat) (x : Value) :
  (w.setCell ⟨g,j,none⟩ x).ownsRow B t k (.slice (some ⟨g,0,none⟩) n cap) n (L.set j x):=by
 refine ⟨by have:=h.1;simpa using this,?_⟩
 rcases h.2 with ⟨h1,h2⟩ | ⟨g',cap',cur,hv,hB,hh,hn,hm,hs,ht⟩
 ·cases h1
 ·cases hv
  refine .inr ⟨g,cap,cur.setIfInBounds j x,rfl,hB,?_,hn,hm,by simp [hs],?_⟩
  ·show (w.heap.modify g _)[g]? = _
   rw [Array.getElem?_modify,if_pos rfl,hh];simp
  ·rw [Array.toList_setIfInBounds,List.take_set,ht]
theorem own_frz {w : World} {B t k g n cap : Nat} {L : List Value} (h : w.ownsRow B t k (.slice (some ⟨g,0,none⟩) n cap) n L) (o : Nat) : w.frozen? ⟨g,o,none⟩ = false:=by
 rcases h.2 with ⟨h1,h2⟩ | ⟨g',cap',cur,hv,hB,hh,r⟩
 ·cases h1
 ·cases hv
  simp only [World.frozen?];rw [hh];simp
structure Kpx (R O : Nat → Prop) (A B : World) : Prop where
 os : B.os = A.os
 tape : B.tape = A.tape
 output : B.output = A.output
 size : A.heap.size ≤ B.heap.size
 keep : ∀ b,R b ∨ O b → b < A.heap.size → B.heap[b]? = A.heap[b]?
theorem Kpx.refl (R O : Nat → Prop) (A : World) : Kpx R O A A:=⟨rfl,rfl,rfl,Nat.le_refl _,fun _ _ _ => rfl⟩
theorem Kpx.of_bel {R O : Nat → Prop} {A B : World} (h : Below A.heap.size A B) : Kpx R O A B:=⟨h.os,h.tape,h.output,h.size,fun b _ hb => h.block b hb⟩
theorem Kpx.trans {R O : Nat → Prop} {A B C : World} (h : Kpx R O A B) (k : Kpx R O B C) : Kpx R O A C:=⟨k.os.trans h.os,k.tape.trans h.tape,k.output.trans h.output,Nat.le_trans h.size k.size,fun b ho hb => (k.keep b ho (Nat.lt_of_lt_of_le hb h.size)).trans (h.keep b ho hb)⟩
theorem Kpx.sub {R O R' O' : Nat → Prop} {A B : World} (h : Kpx R O A B) (hs : ∀ b,R' b ∨ O' b → R b ∨ O b) : Kpx R' O' A B:=⟨h.os,h.tape,h.output,h.size,fun b ho hb => h.keep b (hs b ho) hb⟩
theorem Kpx.put {R O : Nat → Prop} {A : World} {l : Nat} (hr : ¬ R l) (hn : ¬ O l) (o : Obj) : Kpx R O A (A.putObj l o):=⟨rfl,rfl,rfl,by simp,fun b ho _ => World.putObj_heap_other (fun e => ho.elim (fun h => hr (by rw [← e];exact h)) (fun h => hn (by rw [← e];exact h)))⟩
theorem Kpx.cell {R O : Nat → Prop} {A : World} {l o : Nat} (hr : ¬ R l) (hn : ¬ O l) (v : Value) : Kpx R O A (A.setCell ⟨l,o,none⟩ v):=⟨rfl,rfl,rfl,by simp,fun b ho _ => Below.heap_setCell _ _ _ _ (fun e => by have e' : b = l:=e;subst e';exact ho.elim hr hn)⟩
theorem Kpx.vb {R O : Nat → Prop} {A B : World} {b t : Nat} {vs : List Value} (h : Kpx R O A B) (hv : vb A b t vs) (hb : R b ∨ O b) : vb B b t vs:=(h.keep b hb hv.lt).trans hv
def SeqX (P : Program) (g : Nat) (lb : Array Value) (enc : Nat → Array Value) (N : Nat) (R : Nat → Prop) (w : World) : Prop :=
 ∀ (l : Nat) (J Jx : (Nat → Prop) → Nat → World → Prop) (W : World),Below w.heap.size w W →
  (∀ O O' k A B,J O k A → Grw O A B → (∀ b,O' b → O b ∨ A.heap.size ≤ b) → J O' k B) → (∀ O O' k A B,Jx O k A → Grw O A B → (∀ b,O' b → O b ∨ A.heap.size ≤ b) → Jx O' k B) →
  (∀ O k W1,k < N → (∀ b,O b → W.heap.size ≤ b ∧ b < W1.heap.size) → J O k W1 → YieldAt Fence.wide 0 P l (enc k) W1 fun e W' => (e = .returned (.bool true) ∧ J O (k + 1) W' ∧ Kpx R O W1 W') ∨ (e = .returned (.bool false) ∧ Jx O k W' ∧ ∀ b,O b → b < W1.heap.size → W'.heap[b]? = W1.heap[b]?)) →
  J (fun _ => False) 0 W →
  CallsIn Fence.wide 0 P g (#[.func (.yield l) #[] #[]] ++ lb) W fun e W' => (∃ v,e = .returned v) ∧ ∃ O,J O N W' ∨ ∃ k,k < N ∧ Jx O k W'
def xpost (R O : Nat → Prop) (I Ix : (Nat → Prop) → Nat → World → Prop) (k : Nat) (W : World) : Exit → Act → World → Prop
 | .normal,_,W' => Kpx R O W W' ∧ I O (k + 1) W'
 | .ret,_,W' => (∀ b,O b → b < W.heap.size → W'.heap[b]? = W.heap[b]?) ∧ Ix O k W'
 | _,_,_ => False
variable {P : Program}
theorem range_x {g : Operand} {ps : Array Tmp} {assign body : Code} {Q : Exit → Act → World → Prop} {a : Act} {w : World}
  {gf : Nat} {lb : Array Value} (hg : a.eval g = .func (.func gf) #[] lb) (eg : ∀ args w,(callFunc gf args).run P w = .ok (.enter gf args) w)
  {enc : Nat → Array Value} {N : Nat} {R : Nat → Prop} {w0 : World} (hR : ∀ b,R b → b < w.heap.size) (hseq : SeqX P gf lb enc N R w0) (hb0 : Below w0.heap.size w0 w) (hps : ∀ k,(enc k).size = ps.size)
  (I Ix : (Nat → Prop) → Nat → World → Prop) (hI : ∀ O O' k A B,I O k A → Grw O A B → (∀ b,O' b → O b ∨ A.heap.size ≤ b) → I O' k B) (hIx : ∀ O O' k A B,Ix O k A → Grw O A B → (∀ b,O' b → O b ∨ A.heap.size ≤ b) → Ix O' k B)
  (h0 : I (fun _ => False) 0 w)
  (Ax : (Nat → Prop) → Nat → Act → World → Prop) (hAx : ∀ O k a' A B,Ax O k a' A → Grw O A B → Ax O k a' B)
  (hassign : ∀ (l : Nat) (O : Nat → Prop) (k : Nat) (W : World) (K : Act → World → Prop),k < N → (∀ b,O b → w.heap.size ≤ b ∧ b < W.heap.size) → I O k W → (∀ a' W',Kpx R O W W' → I O k W' → Ax O k a' W' → K a' W') →
   assign.wpIn (Fence.wide.inRound l) 0 P (Exit.then K (fun _ _ _ => False)) { tmps:=(ps.zip (enc k)).foldl (fun t (p,v) => t.setIfInBounds p v) a.tmps,defers:=[] } W)
  (hbody : ∀ (l : Nat) (O : Nat → Prop) (k : Nat) (a' : Act) (W : World),(∃ r,W.heap[l]? = some (.loop r)) → O l → k < N → (∀ b,O b → w.heap.size ≤ b ∧ b < W.heap.size) → I O k W → Ax O k a' W → body.wpIn (Fence.wide.inRound l) 0 P (xpost R O I Ix k W) a' W)
  (hdone : ∀ (O : Nat → Prop) (D : Nat) (W : World),w.heap.size ≤ D → I O N W → W.heap[D]? = some (.deferred (some [])) → O D → Q .normal { a with defers:={ target:=.collected D,args:=#[] } :: a.defers } W)
  (hstop : ∀ (O : Nat → Prop) (D : Nat) (k : Nat) (W : World),w.heap.size ≤ D → k < N → Ix O k W → W.heap[D]? = some (.deferred (some [])) → O D → Code.ret.wpIn Fence.wide 0 P Q { a with defers:={ target:=.collected D,args:=#[] } :: a.defers } W) :
  (Code.rangeFunc g ps assign body).wpIn Fence.wide 0 P Q a w:=by
 refine wpIn_rangeFunc ?_;intro fn hfn;rw [show Fence.wide.round = none from rfl]
 obtain ⟨rc,hrc⟩ : ∃ rc : LoopState → Option Code → Loop,rc = fun st pe => { state:=st,pending:=pe,fn,tmps:=a.tmps,params:=ps,assign,body,defers:=w.heap.size }:=⟨_,rfl⟩
 let W1:=(w.alloc (.deferred (some []))).alloc (.loop (rc .ready none))
 have hs1 : W1.heap.size = w.heap.size + 2:=by simp [W1]
 have hL1 : W1.heap[w.heap.size + 1]? = some (.loop (rc .ready none)):=by
  have:=World.alloc_heap_new (w.alloc (.deferred (some []))) (.loop (rc .ready none));rwa [World.size_alloc] at this
 have hK1 : W1.heap[w.heap.size]? = some (.deferred (some [])):=(Below.heap_alloc _ _ _ (by simp)).trans (World.alloc_heap_new w _);have hbw : Below w.heap.size w W1:=ba (ba (bfl _ _) _) _;have hb1 : Below w0.heap.size w0 W1:=hb0.trans (hbw.mono hb0.size)
 refine ⟨w.heap.size + 1,[{ target:=.collected w.heap.size,args:=#[] }],W1,{ target:=.fn (.func gf) lb,args:=#[.func (.yield (w.heap.size + 1)) #[] #[]] },W1,gf,
  #[.func (.yield (w.heap.size + 1)) #[] #[]] ++ lb,W1,?_,?_,?_,?_,(fun h => by cases h),?_⟩
 ·rw [show W1 = (w.alloc (.deferred (some []))).alloc (.loop (rc .ready none)) from rfl,hrc];exact run_enterLoop_outer _ _ _ _ _
 ·simp only [resolve,hg]
  simp [go_sem]
 ·intro f' hf';simp [Target.leads] at hf';subst hf';trivial
 ·simp [invoke,go_sem,eg]
 ·-- the two blocks of the loop itself are of the iterator's side,so far as the caller is concerned
  let up : (Nat → Prop) → Nat → Prop:=fun O b => O b ∨ b = w.heap.size ∨ b = w.heap.size + 1
  have upl : ∀ O,up O (w.heap.size + 1):=fun O => .inr (.inr rfl)
  have upd : ∀ O,up O w.heap.size:=fun O => .inr (.inl rfl)
  have upg : ∀ {O : Nat → Prop} {A B : World},Grw O A B → Grw (up O) A B:=fun h => h.mono (fun b hb => .inl hb)
  refine (hseq (w.heap.size + 1)
   (fun O k W => (∀ b,O b → w.heap.size + 2 ≤ b) ∧ I (up O) k W ∧ W.heap[w.heap.size + 1]? = some (.loop (rc .ready none)) ∧ W.heap[w.heap.size]? = some (.deferred (some [])))
   (fun O k W => (∀ b,O b → w.heap.size + 2 ≤ b) ∧ Ix (up O) k W ∧ W.heap[w.heap.size + 1]? = some (.loop (rc .done (some .ret))) ∧ W.heap[w.heap.size]? = some (.deferred (some [])))
   W1 hb1 ?_ ?_ ?_ ?_).mono ?_
  ·rintro O O' k A B ⟨hO,hi,hl,hk⟩ hg' hoo
   have hlt:=(Array.getElem?_eq_some_iff.1 hl).1;exact ⟨fun b hb => (hoo b hb).elim (hO b) (fun h => by omega),hI _ _ _ _ _ hi (upg hg') (fun b hb => hb.elim (fun h => (hoo b h).elim (fun h => .inl (.inl h)) .inr) (fun h => .inl (.inr h))),(hg'.block _ (Array.getElem?_eq_some_iff.1 hl).1 (fun h => absurd (hO _ h) (by omega))).trans hl,(hg'.block _ (Array.getElem?_eq_some_iff.1 hk).1 (fun h => absurd (hO _ h) (by omega))).trans hk⟩
  ·rintro O O' k A B ⟨hO,hi,hl,hk⟩ hg' hoo
   have hlt:=(Array.getElem?_eq_some_iff.1 hl).1;exact ⟨fun b hb => (hoo b hb).elim (hO b) (fun h => by omega),hIx _ _ _ _ _ hi (upg hg') (fun b hb => hb.elim (fun h => (hoo b h).elim (fun h => .inl (.inl h)) .inr) (fun h => .inl (.inr h))),(hg'.block _ (Array.getElem?_eq_some_iff.1 hl).1 (fun h => absurd (hO _ h) (by omega))).trans hl,(hg'.block _ (Array.getElem?_eq_some_iff.1 hk).1 (fun h => absurd (hO _ h) (by omega))).trans hk⟩
  ·rintro O k W hkN hOb ⟨hO,hi,hl,hk⟩
   have hlt : w.heap.size + 1 < W.heap.size:=(Array.getElem?_eq_some_iff.1 hl).1;have hy:=run_yield (P:=P) (args:=enc k) hl (by rw [hrc];exact hps k);rw [hrc] at hy
   have hub : ∀ X : World,W.heap.size ≤ X.heap.size → ∀ b,up O b → w.heap.size ≤ b ∧ b < X.heap.size:=by
    rintro X hX b (h | rfl | rfl)
    ·have:=hOb b h;omega
    ·omega
    ·omega
   have nO : ¬ O (w.heap.size + 1):=fun h => absurd (hO _ h) (by omega)
   refine ⟨fn,_,assign,body,hy,roundIn_of_wpIn hfn (hassign _ (up O) k W _ hkN (hub W (Nat.le_refl _)) hi ?_)⟩;clear hy;intro a' Wa hka hia hax;have hla:=(hka.keep _ (.inr (upl O)) hlt).trans hl;have hda:=(hka.keep _ (.inr (upd O)) (by omega)).trans hk;refine ⟨_,run_beginRound hla (by rw [hrc]),?_⟩;have hlt2 : w.heap.size + 1 < Wa.heap.size:=(Array.getElem?_eq_some_iff.1 hla).1;have hl2 : (Wa.putObj (w.heap.size + 1) (.loop { rc .ready none with state:=.busy })).heap[w.heap.size + 1]? = some (.loop { rc .ready none with state:=.busy }):=World.putObj_heap_same hlt2
   have hk2 : (Wa.putObj (w.heap.size + 1) (.loop { rc .ready none with state:=.busy })).heap[w.heap.size]? = some (.deferred (some [])):=(World.putObj_heap_other (by omega)).trans hda;have hg2 : Grw (up O) Wa (Wa.putObj (w.heap.size + 1) (.loop { rc .ready none with state:=.busy })):=Grw.put (upl O) _;have nR : ¬ R (w.heap.size + 1):=fun h => absurd (hR _ h) (by omega)
   have hkk : Kpx R O W (Wa.putObj (w.heap.size + 1) (.loop { rc .ready none with state:=.busy })):=(hka.sub (fun b hb => hb.elim .inl (fun h => .inr (.inl h)))).trans (Kpx.put nR nO _);refine wpIn_mono (hbody _ (up O) k a' _ ⟨_,hl2⟩ (upl O) hkN (hub _ hkk.size) (hI _ _ _ _ _ hia hg2 (fun b h => .inl h)) (hAx _ _ _ _ _ hax hg2)) ?_;generalize hWb : Wa.putObj (w.heap.size + 1) (.loop { rc .ready none with state:=.busy }) = Wb at *;have hltb : w.heap.size + 1 < Wb.heap.size:=(Array.getElem?_eq_some_iff.1 hl2).1;rintro e a3 W3 hp
   cases e with
   | normal =>
    obtain ⟨hk3,hi3⟩:=hp;have hl3:=(hk3.keep _ (.inr (upl O)) hltb).trans hl2;have hd3:=(hk3.keep _ (.inr (upd O)) (by omega)).trans hk2;have hr:=run_endRound (P:=P) none hl3;refine ⟨_,_,hr,.inl ⟨rfl,⟨hO,hI _ _ _ _ _ hi3 (Grw.put (upl O) _) (fun b h => .inl h),?_,(World.putObj_heap_other (by omega)).trans hd3⟩,(hkk.trans (hk3.sub (fun b hb => hb.elim .inl (fun h => .inr (.inl h))))).trans (Kpx.put nR nO _)⟩⟩;rw [World.putObj_heap_same (Array.getElem?_eq_some_iff.1 hl3).1,hrc];rfl
   | ret =>
    obtain ⟨hk3,hi3⟩:=hp;have hl3:=(hk3 _ (upl O) hltb).trans hl2;have hd3:=(hk3 _ (upd O) (by omega)).trans hk2;have hr:=run_endRound (P:=P) (some .ret) hl3;refine ⟨_,_,hr,.inr ⟨rfl,⟨hO,hIx _ _ _ _ _ hi3 (Grw.put (upl O) _) (fun b h => .inl h),?_,(World.putObj_heap_other (by omega)).trans hd3⟩,fun b hb hbl => ?keep⟩⟩
    ·rw [World.putObj_heap_same (Array.getElem?_eq_some_iff.1 hl3).1,hrc]
     rfl
    ·exact ((World.putObj_heap_other (fun e => nO (by rw [← e];exact hb))).trans (hk3 b (.inl hb) (Nat.lt_of_lt_of_le hbl hkk.size))).trans (hkk.keep b (.inr hb) hbl)
   | exit id => exact hp.elim
   | goto t => exact hp.elim
   | panic ch => exact hp.elim
   | outgrown => exact hp.elim
  ·refine ⟨fun b hb => hb.elim,hI _ _ _ _ _ h0 (Grw.of_bel hbw) ?_,hL1,hK1⟩
   rintro b (h | rfl | rfl)
   ·exact h.elim
   ·exact .inr (Nat.le_refl _)
   ·exact .inr (by omega)
  ·rintro e W2 ⟨⟨v,rfl⟩,O,(⟨hO,hi,hl,hk⟩ | ⟨k,hkN,hO,hi,hl,hk⟩)⟩
   ·have hr:=run_endLoop (P:=P) hl (by rw [hrc];simp)
    have e1 : (rc .ready none).pending = none:=by rw [hrc]
    rw [e1] at hr;exact ⟨none,_,hr,hdone _ _ _ (Nat.le_refl _) (hI _ _ _ _ _ hi (Grw.put (upl O) _) (fun b h => .inl h)) ((World.putObj_heap_other (by omega)).trans hk) (upd O)⟩
   ·have hr:=run_endLoop (P:=P) hl (by rw [hrc];simp)
    have e1 : (rc .done (some .ret)).pending = some .ret:=by rw [hrc]
    rw [e1] at hr;exact ⟨some .ret,_,hr,hstop _ _ k _ (Nat.le_refl _) hkN (hIx _ _ _ _ _ hi (Grw.put (upl O) _) (fun b h => .inl h)) ((World.putObj_heap_other (by omega)).trans hk) (upd O)⟩
end Go.Proofs.YtkiplmabjeadgaaGreat
