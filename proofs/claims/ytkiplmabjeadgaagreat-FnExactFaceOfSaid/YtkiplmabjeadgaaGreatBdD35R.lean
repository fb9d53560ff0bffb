/- The program's numbers of what a feature names. -/
import Derived.Test.YtkiplmabjeadgaaGreatBdD5R
import Derived.Test.YtkiplmabjeadgaaGreatNmAtR
import Derived.Deep.LoopGhost
import Derived.Test.YtkiplmabjeadgaaGreatMpFR
namespace Go.Proofs.YtkiplmabjeadgaaGreat
set_option maxRecDepth 100000
set_option maxHeartbeats 16000000
open Go.ChangeShapes Go.WideShapes Go.ChangeAt Go.RowKit
set_option linter.unusedVariables false
set_option linter.unusedSimpArgs false
theorem do35 {s1 s2 s3 s4 s5 s6 s9 s10 s11 s12 s13 s14 s16 s17 s18 s19 s20 s21 s22 s23 s24 s25 s26 s27 s28 s29 s30 s31 s32 s33 s34 s35 s36 s37 s38 s39 s40 s41 s42 s43 s44 s45 s46 s47 s48 s49 s50 s51 s52 s53 s54 s55 s56 s57 s58 s59 s60 s61 s62 s63 s64 s65 s66 s67 s68 s69 s70 s71 s72 s73 s74 s75 s76 s77 s78 s79 s80 s81 s82 s83 s84 s85 s86 s87 s88 s89 s90 s91 s92 s93 s94 s95 s96 s97 s98 s99 s100 s101 s102 s103 s104 s105 s106 s107 s108 s109 s110 s111 s112 s113 s114 s115 s116 s117 s118 s119 s120 s121 s122 s123 s124 s125 s126 s127 s128 s129 s130 s131 s132 s133 s134 s135 s136 s137 s138 s139 s140 s141 s142 s143 s144 s145 s146 s147 s148 s149 s150 s151 s152 s153 s154 s155 s156 s157 s158 s159 s160 s161 s162 s163 s164 s165 s166 s167 s168 s169 s170 s171 s172 s173 s174 s175 s176 s177 s178 s179 s180 s181 s182 s183 s184 s185 s186 : Value} {g gx bn bc k nd cd : Nat} {kd b0 b1 b2 b3 b4 b5 : Int} {ud : Option Addr} {Z_ : World → Prop} {V : World} {K_ : Act → World → Prop}
  (HG1 : Hid (V.cell? ⟨g,1,none⟩ = some (.slice ud nd cd))) (HB0 : Hid (V.cell? ⟨gx,k * 6,none⟩ = some (.int .i64 (b0)))) (HB1 : Hid (V.cell? ⟨gx,k * 6 + 1,none⟩ = some (.int .i64 (b1)))) (HB2 : Hid (V.cell? ⟨gx,k * 6 + 2,none⟩ = some (.int .i64 (b2)))) (HB3 : Hid (V.cell? ⟨gx,k * 6 + 3,none⟩ = some (.int .i64 (b3)))) (HB4 : Hid (V.cell? ⟨gx,k * 6 + 4,none⟩ = some (.int .i64 (b4)))) (HB5 : Hid (V.cell? ⟨gx,k * 6 + 5,none⟩ = some (.int .i64 (b5))))
  (HX3 : Hid (k < bn))
  (HF12 : Hid (∀ Xw,Below V.heap.size V Xw → Calls Tryz.prog 111 #[.pointer (some ⟨g,0,none⟩),.agg #[.int .i64 (b0),.int .i64 (b1),.int .i64 (b2),.int .i64 (b3),.int .i64 (b4),.int .i64 (b5)],.bool (kd == 1),.int .i64 (nd : Int)] Xw fun e w' => e = .returned (.tuple #[]) ∧ Z_ w'))
  (hQ : ∀ W9,Z_ W9 → K_ { tmps:=#[.pointer (some ⟨g,0,none⟩),s1,s2,s3,s4,s5,s6,.slice (some ⟨gx,0,none⟩) bn bc,.int .i64 (kd),s9,s10,s11,s12,s13,s14,.int .i64 (k : Int),s16,s17,s18,s19,s20,s21,s22,s23,s24,s25,s26,s27,s28,s29,s30,s31,s32,s33,s34,s35,s36,s37,s38,s39,s40,s41,s42,s43,s44,s45,s46,s47,s48,s49,s50,s51,s52,s53,s54,s55,s56,s57,s58,s59,s60,s61,s62,s63,s64,s65,s66,s67,s68,s69,s70,s71,s72,s73,s74,s75,s76,s77,s78,s79,s80,s81,s82,s83,s84,s85,s86,s87,s88,s89,s90,s91,s92,s93,s94,s95,s96,s97,s98,s99,s100,s101,s102,s103,s104,s105,s106,s107,s108,s109,s110,s111,s112,s113,s114,s115,s116,s117,s118,s119,s120,s121,s122,s123,s124,s125,s126,s127,s128,s129,s130,s131,s132,s133,s134,s135,s136,s137,s138,s139,s140,s141,s142,s143,s144,s145,s146,s147,s148,s149,s150,s151,s152,s153,s154,s155,s156,s157,s158,s159,s160,s161,s162,s163,s164,s165,s166,s167,s168,s169,s170,s171,s172,.pointer (some ⟨g,0,none⟩),.slice (some ⟨gx,0,none⟩) bn bc,.int .i64 (k : Int),.pointer (some ⟨gx,k * 6,none⟩),.agg #[.int .i64 (b0),.int .i64 (b1),.int .i64 (b2),.int .i64 (b3),.int .i64 (b4),.int .i64 (b5)],.int .i64 (kd),.bool (kd == 1),.pointer (some ⟨g,0,none⟩),.pointer (some ⟨g,0,none⟩),.pointer (some ⟨g,1,none⟩),.slice ud nd cd,.int .i64 (nd : Int),.tuple #[],s186],defers:=[] } W9) :
  Go.Code.wp Tryz.prog (rg78 35) (Only K_) { tmps:=#[.pointer (some ⟨g,0,none⟩),s1,s2,s3,s4,s5,s6,.slice (some ⟨gx,0,none⟩) bn bc,.int .i64 (kd),s9,s10,s11,s12,s13,s14,.int .i64 (k : Int),s16,s17,s18,s19,s20,s21,s22,s23,s24,s25,s26,s27,s28,s29,s30,s31,s32,s33,s34,s35,s36,s37,s38,s39,s40,s41,s42,s43,s44,s45,s46,s47,s48,s49,s50,s51,s52,s53,s54,s55,s56,s57,s58,s59,s60,s61,s62,s63,s64,s65,s66,s67,s68,s69,s70,s71,s72,s73,s74,s75,s76,s77,s78,s79,s80,s81,s82,s83,s84,s85,s86,s87,s88,s89,s90,s91,s92,s93,s94,s95,s96,s97,s98,s99,s100,s101,s102,s103,s104,s105,s106,s107,s108,s109,s110,s111,s112,s113,s114,s115,s116,s117,s118,s119,s120,s121,s122,s123,s124,s125,s126,s127,s128,s129,s130,s131,s132,s133,s134,s135,s136,s137,s138,s139,s140,s141,s142,s143,s144,s145,s146,s147,s148,s149,s150,s151,s152,s153,s154,s155,s156,s157,s158,s159,s160,s161,s162,s163,s164,s165,s166,s167,s168,s169,s170,s171,s172,s173,s174,s175,s176,s177,s178,s179,s180,s181,s182,s183,s184,s185,s186],defers:=[] } V:=by
 have HQ:=hide hQ;clear hQ
 conv => arg 2;whnf
 refine wp_region_inv2 (fun Lb A W => ∃ (u0 u1 u2 u3 u4 u5 u6 u7 u8 u9 u10 u11 u12 : Bool) (dm : Nat),Lb = #[u0,u1,u2,u3,u4,u5,u6,u7,u8,u9,u10,u11,u12] ∧ A = ({ tmps:=#[.pointer (some ⟨g,0,none⟩),s1,s2,s3,s4,s5,s6,.slice (some ⟨gx,0,none⟩) bn bc,.int .i64 (kd),s9,s10,s11,s12,s13,s14,.int .i64 (k : Int),s16,s17,s18,s19,s20,s21,s22,s23,s24,s25,s26,s27,s28,s29,s30,s31,s32,s33,s34,s35,s36,s37,s38,s39,s40,s41,s42,s43,s44,s45,s46,s47,s48,s49,s50,s51,s52,s53,s54,s55,s56,s57,s58,s59,s60,s61,s62,s63,s64,s65,s66,s67,s68,s69,s70,s71,s72,s73,s74,s75,s76,s77,s78,s79,s80,s81,s82,s83,s84,s85,s86,s87,s88,s89,s90,s91,s92,s93,s94,s95,s96,s97,s98,s99,s100,s101,s102,s103,s104,s105,s106,s107,s108,s109,s110,s111,s112,s113,s114,s115,s116,s117,s118,s119,s120,s121,s122,s123,s124,s125,s126,s127,s128,s129,s130,s131,s132,s133,s134,s135,s136,s137,s138,s139,s140,s141,s142,s143,s144,s145,s146,s147,s148,s149,s150,s151,s152,s153,s154,s155,s156,s157,s158,s159,s160,s161,s162,s163,s164,s165,s166,s167,s168,s169,s170,s171,s172,(bif u0 then .pointer (some ⟨g,0,none⟩) else s173),(bif u1 then .slice (some ⟨gx,0,none⟩) bn bc else s174),(bif u2 then .int .i64 (k : Int) else s175),(bif u3 then .pointer (some ⟨gx,k * 6,none⟩) else s176),(bif u4 then .agg #[.int .i64 (b0),.int .i64 (b1),.int .i64 (b2),.int .i64 (b3),.int .i64 (b4),.int .i64 (b5)] else s177),(bif u5 then .int .i64 (kd) else s178),(bif u6 then .bool (kd == 1) else s179),(bif u7 then .pointer (some ⟨g,0,none⟩) else s180),(bif u8 then .pointer (some ⟨g,0,none⟩) else s181),(bif u9 then .pointer (some ⟨g,1,none⟩) else s182),(bif u10 then .slice ud nd cd else s183),(bif u11 then .int .i64 (nd : Int) else s184),(bif u12 then .tuple #[] else s185),s186],defers:=[] } : Act) ∧ (u12 = false → Below V.heap.size V W) ∧ (u12 = true → Z_ W) ∧ (u3 = true → u1 = true ∧ u2 = true) ∧ (u4 = true → u3 = true) ∧ (u6 = true → u5 = true) ∧ (u8 = true → u7 = true) ∧ (u9 = true → u8 = true) ∧ (u10 = true → u9 = true) ∧ (u11 = true → u10 = true) ∧ (u12 = true → u0 = true ∧ u1 = true ∧ u2 = true ∧ u3 = true ∧ u4 = true ∧ u5 = true ∧ u6 = true ∧ u7 = true ∧ u8 = true ∧ u9 = true ∧ u10 = true ∧ u11 = true)) (by kernel_rfl) (by kernel_rfl) ?h0 ?hstep ?hend
 case h0 =>
  exact ⟨false,false,false,false,false,false,false,false,false,false,false,false,false,0,rfl,rfl,(fun _ => Below.drew (bfl _ _)),zf,zf,zf,zf,zf,zf,zf,zf,zf⟩
 case hstep =>
  intro Lb A W hI;obtain ⟨u0,u1,u2,u3,u4,hI⟩:=hI;obtain ⟨u5,u6,u7,u8,u9,hI⟩:=hI;obtain ⟨u10,u11,u12,dm,hI⟩:=hI;obtain ⟨hLb,hI⟩:=hI;obtain ⟨hA,hI⟩:=hI;obtain ⟨kB,hI⟩:=hI;obtain ⟨kZ,hI⟩:=hI;obtain ⟨l3,hI⟩:=hI;obtain ⟨l4,hI⟩:=hI;obtain ⟨l6,hI⟩:=hI;obtain ⟨l8,hI⟩:=hI;obtain ⟨l9,hI⟩:=hI;obtain ⟨l10,hI⟩:=hI;obtain ⟨l11,hI⟩:=hI;have kF:=hI;clear hI;subst hLb;subst hA;replace kB:=hide kB;replace kZ:=hide kZ;replace l3:=hide l3;replace l4:=hide l4;replace l6:=hide l6;replace l8:=hide l8;replace l9:=hide l9;replace l10:=hide l10
  replace l11:=hide l11;replace kF:=hide kF;refine ⟨?_,?_,?_,?_,?_,?_,?_,?_,?_,?_,?_,?_,?_,trivial⟩
  ·intro h0 hd K hK
   have z : u0 = false:=h0;have z12_ : u12 = false:=znb fun hu => z.symm.trans ((zu kF hu).1)
   subst z12_;subst z;clear h0 hd;rw [if_pos (by rfl)];go_simp;exact zu hK _ _ ⟨true,u1,u2,u3,u4,u5,u6,u7,u8,u9,u10,u11,false,dm,rfl,rfl,zu kB,zf,zu l3,zu l4,zu l6,zu l8,zu l9,zu l10,zu l11,zf⟩
  ·intro h0 hd K hK
   have z : u1 = false:=h0;have z12_ : u12 = false:=znb fun hu => z.symm.trans ((zu kF hu).2.1)
   subst z12_;subst z;clear h0 hd;rw [if_pos (by rfl)];go_simp;exact zu hK _ _ ⟨u0,true,u2,u3,u4,u5,u6,u7,u8,u9,u10,u11,false,dm,rfl,rfl,zu kB,zf,(fun h => ⟨rfl,(zu l3 h).2⟩),zu l4,zu l6,zu l8,zu l9,zu l10,zu l11,zf⟩
  ·intro h0 hd K hK
   have z : u2 = false:=h0;have z12_ : u12 = false:=znb fun hu => z.symm.trans ((zu kF hu).2.2.1)
   subst z12_;subst z;clear h0 hd;rw [if_pos (by rfl)];go_simp;exact zu hK _ _ ⟨u0,u1,true,u3,u4,u5,u6,u7,u8,u9,u10,u11,false,dm,rfl,rfl,zu kB,zf,(fun h => ⟨(zu l3 h).1,rfl⟩),zu l4,zu l6,zu l8,zu l9,zu l10,zu l11,zf⟩
  ·intro h0 hd K hK
   have z : u3 = false:=h0;have z12_ : u12 = false:=znb fun hu => z.symm.trans ((zu kF hu).2.2.2.1)
   obtain ⟨rfl,rfl⟩ : u1 = true ∧ u2 = true:=by simp [Region.binds] at hd;simp [hd]
   subst z12_;subst z;clear h0 hd;rw [if_pos (by rfl)];have q1 : k < bn:=zu HX3;have q2 : (k : Int) < (bn : Int):=by omega
   go_simp;exact zu hK _ _ ⟨u0,true,true,true,u4,u5,u6,u7,u8,u9,u10,u11,false,dm,rfl,rfl,zu kB,zf,(fun _ => ⟨rfl,rfl⟩),(fun h => rfl),zu l6,zu l8,zu l9,zu l10,zu l11,zf⟩
  ·intro h0 hd K hK
   have z : u4 = false:=h0;have z12_ : u12 = false:=znb fun hu => z.symm.trans ((zu kF hu).2.2.2.2.1)
   obtain ⟨rfl⟩ : u3 = true:=by simp [Region.binds] at hd;simp [hd]
   subst z12_;subst z;clear h0 hd;rw [if_pos (by rfl)];have c0:=keep1 (zu kB rfl) (zu HB0);have c1:=keep1 (zu kB rfl) (zu HB1);have c2:=keep1 (zu kB rfl) (zu HB2);have c3:=keep1 (zu kB rfl) (zu HB3);have c4:=keep1 (zu kB rfl) (zu HB4);have c5:=keep1 (zu kB rfl) (zu HB5);go_simp;exact zu hK _ _ ⟨u0,u1,u2,true,true,u5,u6,u7,u8,u9,u10,u11,false,dm,rfl,rfl,zu kB,zf,zu l3,(fun _ => rfl),zu l6,zu l8,zu l9,zu l10,zu l11,zf⟩
  ·intro h0 hd K hK
   have z : u5 = false:=h0;have z12_ : u12 = false:=znb fun hu => z.symm.trans ((zu kF hu).2.2.2.2.2.1)
   subst z12_;subst z;clear h0 hd;rw [if_pos (by rfl)];go_simp;exact zu hK _ _ ⟨u0,u1,u2,u3,u4,true,u6,u7,u8,u9,u10,u11,false,dm,rfl,rfl,zu kB,zf,zu l3,zu l4,(fun h => rfl),zu l8,zu l9,zu l10,zu l11,zf⟩
  ·intro h0 hd K hK
   have z : u6 = false:=h0;have z12_ : u12 = false:=znb fun hu => z.symm.trans ((zu kF hu).2.2.2.2.2.2.1)
   obtain ⟨rfl⟩ : u5 = true:=by simp [Region.binds] at hd;simp [hd]
   subst z12_;subst z;clear h0 hd;rw [if_pos (by rfl)];go_simp;exact zu hK _ _ ⟨u0,u1,u2,u3,u4,true,true,u7,u8,u9,u10,u11,false,dm,rfl,rfl,zu kB,zf,zu l3,zu l4,(fun _ => rfl),zu l8,zu l9,zu l10,zu l11,zf⟩
  ·intro h0 hd K hK
   have z : u7 = false:=h0;have z12_ : u12 = false:=znb fun hu => z.symm.trans ((zu kF hu).2.2.2.2.2.2.2.1)
   subst z12_;subst z;clear h0 hd;rw [if_pos (by rfl)];go_simp;exact zu hK _ _ ⟨u0,u1,u2,u3,u4,u5,u6,true,u8,u9,u10,u11,false,dm,rfl,rfl,zu kB,zf,zu l3,zu l4,zu l6,(fun h => rfl),zu l9,zu l10,zu l11,zf⟩
  ·intro h0 hd K hK
   have z : u8 = false:=h0;have z12_ : u12 = false:=znb fun hu => z.symm.trans ((zu kF hu).2.2.2.2.2.2.2.2.1)
   obtain ⟨rfl⟩ : u7 = true:=by simp [Region.binds] at hd;simp [hd]
   subst z12_;subst z;clear h0 hd;rw [if_pos (by rfl)];go_simp;exact zu hK _ _ ⟨u0,u1,u2,u3,u4,u5,u6,true,true,u9,u10,u11,false,dm,rfl,rfl,zu kB,zf,zu l3,zu l4,zu l6,(fun _ => rfl),(fun h => rfl),zu l10,zu l11,zf⟩
  ·intro h0 hd K hK
   have z : u9 = false:=h0;have z12_ : u12 = false:=znb fun hu => z.symm.trans ((zu kF hu).2.2.2.2.2.2.2.2.2.1)
   obtain ⟨rfl⟩ : u8 = true:=by simp [Region.binds] at hd;simp [hd]
   subst z12_;subst z;clear h0 hd;rw [if_pos (by rfl)];go_simp;exact zu hK _ _ ⟨u0,u1,u2,u3,u4,u5,u6,u7,true,true,u10,u11,false,dm,rfl,rfl,zu kB,zf,zu l3,zu l4,zu l6,zu l8,(fun _ => rfl),(fun h => rfl),zu l11,zf⟩
  ·intro h0 hd K hK
   have z : u10 = false:=h0;have z12_ : u12 = false:=znb fun hu => z.symm.trans ((zu kF hu).2.2.2.2.2.2.2.2.2.2.1)
   obtain ⟨rfl⟩ : u9 = true:=by simp [Region.binds] at hd;simp [hd]
   subst z12_;subst z;clear h0 hd;rw [if_pos (by rfl)];have c0:=keep1 (zu kB rfl) (zu HG1);go_simp;exact zu hK _ _ ⟨u0,u1,u2,u3,u4,u5,u6,u7,u8,true,true,u11,false,dm,rfl,rfl,zu kB,zf,zu l3,zu l4,zu l6,zu l8,zu l9,(fun _ => rfl),(fun h => rfl),zf⟩
  ·intro h0 hd K hK
   have z : u11 = false:=h0;have z12_ : u12 = false:=znb fun hu => z.symm.trans ((zu kF hu).2.2.2.2.2.2.2.2.2.2.2)
   obtain ⟨rfl⟩ : u10 = true:=by simp [Region.binds] at hd;simp [hd]
   subst z12_;subst z;clear h0 hd;rw [if_pos (by rfl)];go_simp;exact zu hK _ _ ⟨u0,u1,u2,u3,u4,u5,u6,u7,u8,u9,true,true,false,dm,rfl,rfl,zu kB,zf,zu l3,zu l4,zu l6,zu l8,zu l9,zu l10,(fun _ => rfl),zf⟩
  ·intro h0 hd K hK
   have z : u12 = false:=h0
   have zd0 : u0 = true ∧ u4 = true ∧ u6 = true ∧ u11 = true:=by
    simp [Region.binds] at hd;simp [hd]
   have zd : u0 = true ∧ u4 = true ∧ u6 = true ∧ u11 = true ∧ u1 = true ∧ u2 = true ∧ u3 = true ∧ u5 = true ∧ u7 = true ∧ u8 = true ∧ u9 = true ∧ u10 = true:=⟨zd0.1,zd0.2.1,zd0.2.2.1,zd0.2.2.2,(zu l3 (zu l4 zd0.2.1)).1,(zu l3 (zu l4 zd0.2.1)).2,(zu l4 zd0.2.1),(zu l6 zd0.2.2.1),(zu l8 (zu l9 (zu l10 (zu l11 zd0.2.2.2)))),(zu l9 (zu l10 (zu l11 zd0.2.2.2))),(zu l10 (zu l11 zd0.2.2.2)),(zu l11 zd0.2.2.2)⟩
   obtain ⟨rfl,rfl,rfl,rfl,rfl,rfl,rfl,rfl,rfl,rfl,rfl,rfl⟩:=zd;subst z;clear h0 hd;rw [if_pos (by rfl)];go_simp;refine (zu HF12 W (zu kB rfl)).mono ?_;rintro e w8 ⟨rfl,hz8⟩;exact zu hK _ _ ⟨true,true,true,true,true,true,true,true,true,true,true,true,true,dm,rfl,rfl,zt,(fun _ => hz8),(fun _ => ⟨rfl,rfl⟩),(fun _ => rfl),(fun _ => rfl),(fun _ => rfl),(fun _ => rfl),(fun _ => rfl),(fun _ => rfl),(fun _ => ⟨rfl,rfl,rfl,rfl,rfl,rfl,rfl,rfl,rfl,rfl,rfl,rfl⟩)⟩
 case hend =>
  intro Lb A W hI;obtain ⟨u0,u1,u2,u3,u4,hI⟩:=hI;obtain ⟨u5,u6,u7,u8,u9,hI⟩:=hI;obtain ⟨u10,u11,u12,dm,hI⟩:=hI;obtain ⟨hLb,hI⟩:=hI;obtain ⟨hA,hI⟩:=hI;obtain ⟨kB,hI⟩:=hI;obtain ⟨kZ,hI⟩:=hI;obtain ⟨l3,hI⟩:=hI;obtain ⟨l4,hI⟩:=hI;obtain ⟨l6,hI⟩:=hI;obtain ⟨l8,hI⟩:=hI;obtain ⟨l9,hI⟩:=hI;obtain ⟨l10,hI⟩:=hI;obtain ⟨l11,hI⟩:=hI;have kF:=hI;clear hI;subst hLb;subst hA;intro hL
  have hl : u0 = true ∧ u1 = true ∧ u2 = true ∧ u3 = true ∧ u4 = true ∧ u5 = true ∧ u6 = true ∧ u7 = true ∧ u8 = true ∧ u9 = true ∧ u10 = true ∧ u11 = true ∧ u12 = true:=by
   have h2:=congrArg Array.toList hL
   simpa [List.replicate] using h2
  obtain ⟨rfl,rfl,rfl,rfl,rfl,rfl,rfl,rfl,rfl,rfl,rfl,rfl,rfl⟩:=hl;exact zu HQ W (kZ rfl)
theorem workP_any (u : Option Addr) (n cu : Nat) (nm : List (List Nat)) (w : World) (hl : nm.length = n) (hn : n ≤ 4096) (hu : NmAt w u nm) (hlt : ∀ l ∈ nm,l.length ≤ 4096 ∧ ∀ x ∈ l,x < n) :
  Calls Tryz.prog 149 #[.slice u n cu] w fun e w' => ∃ v,e = .returned v ∧ Row w' w.heap.size 3 1 v (ord nm).length (nats (ord nm)) ∧ Below w.heap.size w w':=by
 obtain ⟨i0,hi,hz0,hz1,hz2⟩:=info_parts info3;have hmk:=fun W => make_vals (P:=Tryz.prog) 95 4 1 n (.bool false) rfl Tryz.underlying95 info4 (by omega) (by omega) W
 have HU:=hide hu;have HL:=hide hl;have HT:=hide hlt;clear hu hl hlt;rw [← bl_nil] at hmk;go_enter Tryz.func149,Tryz.ntmps149;go_wp2_with fail;have HV0:=hide (vb_new w 4 (bl n []) _ rfl);have HB0:=hide (ba (bfl w.heap.size w) (.cells (bl n []).toArray 4));clear hmk
 go_loopg [3] (n + 1) (fun k v W => ∃ m : Nat,m ≤ n ∧ k = n + 1 - m ∧ (wo nm m).length = m ∧ Row W w.heap.size 3 1 v m (nats (wo nm m)) ∧ v.ownBlock ≠ some w.heap.size ∧ vb W w.heap.size 4 (bl n (wo nm m)) ∧ Below w.heap.size w W)
 case atStart => exact ⟨0,Nat.zero_le _,rfl,rfl,own_nil _ _ _ _,by simp [Value.ownBlock],zu HV0,zu HB0⟩
 case round =>
  obtain ⟨m,hm,hgk,hml,hrow,hob,hvb,hw⟩:=hrel;rename World => W1
  obtain ⟨uv,cap,rfl,_⟩:=hrow.form;have HR:=hide hrow;have HV:=hide hvb;have HW:=hide hw;have HOB:=hide hob;have HML:=hide hml;have HGK:=hide hgk;have HF:=hide (ffP_any u n cu w.heap.size nm (wo nm m) W1 (zu HL) hn ((zu HU).bel hw) (zu HT) hvb);clear hrow hvb hw hob hml hgk HV0 HB0
  cases hq : ff nm (wo nm m) with
  | none =>
   have hfi : ffI nm (wo nm m) = -1:=by unfold ffI;rw [hq]
   rw [hfi] at HF;clear hfi;have hor:=ord_of hq (by rw [zu HL];exact hm);have HOR:=hide hor;clear hor hq;go_wp2_with fail;refine (zu HF).mono ?_;rintro e W2 ⟨rfl,hb⟩;have HB2:=hide (bc (zu HW) hb);have HR2:=hide ((zu HR).below hb);clear hb;go_wp2_with fail;go_ret;refine ⟨_,rfl,?_,zu HB2⟩;rw [zu HOR,zu HML];exact zu HR2
  | some q =>
   have hfi : ffI nm (wo nm m) = (q : Int):=by unfold ffI;rw [hq]
   rw [hfi] at HF;clear hfi;have hqn : q < n:=by have:=(ff_some hq).1;rw [zu HL] at this;exact this
   have hmn : m < n:=by have:=(wo_count nm m (by rw [hq];simp)).2;rw [zu HL] at this;exact this
   have hws:=wo_some hq;have HWS:=hide hws;clear hws hq;generalize wo nm m = o at *;have q1 : (q : Int) < (n : Int):=by omega
   have q0 : (0 : Int) ≤ (q : Int):=Int.natCast_nonneg _;have qn : ¬ (q : Int) < 0:=by omega
   have qz : decide ((q : Int) < 0) = false:=df qn;go_wp2_with fail;refine (zu HF).mono ?_;rintro e W2 ⟨rfl,hb⟩;have hvb:=(zu HV).bel hb;have fz : ∀ z,W2.frozen? ⟨w.heap.size,z,none⟩ = false:=hvb.frozen;have HV2:=hide (hvb.set q (.bool true));rw [bl_set hqn] at HV2;have hrow:=(zu HR).below hb;have HR2:=hide (hrow.kept' (w':=W2.setCell ⟨w.heap.size,q,none⟩ (.bool true)) (fun g hg => by have h3 : g ≠ w.heap.size:=(by intro e;subst e;exact zu HOB hg);exact Below.heap_setCell _ _ _ _ h3))
   have HW2:=hide (Below.setCell (bc (zu HW) hb) (p:=⟨w.heap.size,q,none⟩) (Nat.le_refl _) (.bool true));have HSZ:=hide (show (W2.setCell ⟨w.heap.size,q,none⟩ (.bool true)).heap.size = W2.heap.size by simp [World.setCell]);have dq:=hvb.cell (bl_at (o:=o) hqn);clear hb hrow hvb
   go_wp2_with (at_builtin;refine zu ?_)
   refine hide ?_;generalize W2.setCell ⟨w.heap.size,q,none⟩ (.bool true) = W3 at *;clear dq fz;refine wpList_append_new _ rfl _ _ 94 rfl w.heap.size 3 i0 _ 1 8 Tryz.underlying94 hi hz0 hz1 hz2 rfl (by decide) _ _ _ rfl ((zu HR2).alloc _) _ 1 1 ([(q : Int)].map (Value.int .i64)) rfl rfl (by first | exact news_cells _ _ (zu HSZ).symm | exact news_cells _ _ rfl) ints_one (by unfold maxLen;omega) (by omega) (Nat.le_trans (zu HW2).size (by simp)) ?_;intro v' w1 hown' hgrow _ hnew
   have R:=hide (own_more (wr:=W3) (news:=[(q : Int)]) ((bfl w.heap.size W3).alloc (zu HW2).size _) (Nat.le_trans (zu HW2).size (by simp)) (zu HR2) hown' hgrow)
   have hob2 : v'.ownBlock ≠ some w.heap.size:=by
    intro e
    rcases hnew _ e with h1 | h1
    ·exact zu HOB h1
    ·have:=(zu HV2).lt
     simp at h1;omega
   have HV3:=hide ((zu HV2).bel ((bfl _ _).alloc (Nat.le_refl _) (.cells #[.int .i64 (q : Int)] 3)));have HV4 : Hid (vb w1 w.heap.size 4 (bl n (o ++ [q]))):=hide ((hgrow.block _ (by have:=(zu HV2).lt;simp;omega) (by intro e;exact zu HOB e.symm)).trans (zu HV3));clear hown' hgrow hnew;go_wp2_with fail
   go_roundg (n + 1 - (m + 1))
   case measure => have:=zu HGK;omega
   case rel =>
    refine ⟨m + 1,by omega,rfl,?_,?_,hob2,?_,(zu HW2).trans ((zu R).2)⟩
    ·rw [zu HWS]
     simp [zu HML]
    ·rw [zu HWS]
     have:=(zu R).1
     simpa [nats] using this
    ·rw [zu HWS]
     exact zu HV4
open Go.ChangeShapes Go.WideShapes Go.ChangeAt Go.RowKit Go.Maps Go.WideMaps
def NbAns (fs : List Ft) (f : Ft) (w : World) (e : Ending) (w' : World) : Prop :=
 (∃ va,e = .returned (.tuple #[va,.string ((wrg fs f).getD ⟨#[]⟩),.int .i64 (if (wrg fs f).isSome then 6 else 0)]) ∧ (∃ ua na ca,va = .slice ua na ca) ∧ (wrg fs f = none → w'.ownsRow (w.heap.size + 2) 3 1 va (nmd fs f).length (natV (nmd fs f)))) ∧ Below w.heap.size w w'
theorem nb_bad {fs : List Ft} {f : Ft} {w w' : World} {s : ByteArray} (h : wrg fs f = some s) (hb : Below w.heap.size w w') : NbAns fs f w (.returned (.tuple #[.slice none 0 0,.string s,.int .i64 6])) w':=by
 unfold NbAns;rw [h];exact ⟨⟨_,rfl,⟨_,_,_,rfl⟩,fun h => by cases h⟩,hb⟩
theorem nb_ok {fs : List Ft} {f : Ft} {w w' : World} {va : Value} (h : wrg fs f = none) (hv : ∃ ua na ca,va = .slice ua na ca) (ho : w'.ownsRow (w.heap.size + 2) 3 1 va (nmd fs f).length (natV (nmd fs f))) (hb : Below w.heap.size w w') : NbAns fs f w (.returned (.tuple #[va,.string ⟨#[]⟩,.int .i64 0])) w':=by
 unfold NbAns;rw [h];exact ⟨⟨_,rfl,hv,fun _ => ho⟩,hb⟩
theorem namedP_any (u u3 u4 : Option Addr) (p po n cu b n3 c3 n4 c4 : Nat) (fs : List Ft) (f : Ft) (w : World) (hl : fs.length = n) (hn : n ≤ 4096) (hu : SlG ftc 15 w u p po fs) (hm : MapOf w b fs n) (htw : twi fs = none) (hs : f.on.size ≤ maxLen ∧ f.ov.size ≤ maxLen) (h1 : emp f.on = true ∨ emp f.ov = true) :
  Calls Tryz.prog 148 #[.agg #[.slice u n cu,.map (some b),.slice u3 n3 c3,.slice u4 n4 c4],ftv f] w (NbAns fs f w):=by
 obtain ⟨iI,hi,hz0,hz1,hz2⟩:=info_parts info3;obtain ⟨s,o,v,k,d,x0,y0,z0,x1,y1,z1,ct,dx,dy,dz⟩:=f;have htk : fs.take n = fs:=List.take_of_length_le (by omega);have hlook:=fun W (h : MapOf W b fs n) (t : ByteArray) (ht : t.size ≤ maxLen) => h.look (by omega) (fun j g _ hg => twi_none' htw j g hg) t ht
 rw [htk] at hlook;have HB:=hide (ba (ba (bfl w.heap.size w) (.cells #[.slice u n cu,.map (some b),.slice u3 n3 c3,.slice u4 n4 c4] 135)) (.cells #[.string s,.string o,.string v,.int .i64 k,.int .i64 d,.int .i64 x0,.int .i64 y0,.int .i64 z0,.int .i64 x1,.int .i64 y1,.int .i64 z1,.int .i64 ct,.int .i64 dx,.int .i64 dy,.int .i64 dz] 75))
 have hmw:=hm.bel (ba (ba (bfl w.heap.size w) (.cells #[.slice u n cu,.map (some b),.slice u3 n3 c3,.slice u4 n4 c4] 135)) (.cells #[.string s,.string o,.string v,.int .i64 k,.int .i64 d,.int .i64 x0,.int .i64 y0,.int .i64 z0,.int .i64 x1,.int .i64 y1,.int .i64 z1,.int .i64 ct,.int .i64 dx,.int .i64 dy,.int .i64 dz] 75));have lo:=hlook _ hmw o hs.1;have lv:=hlook _ hmw v hs.2
 have HU:=hide (hu.bel (ba (ba (bfl w.heap.size w) (.cells #[.slice u n cu,.map (some b),.slice u3 n3 c3,.slice u4 n4 c4] 135)) (.cells #[.string s,.string o,.string v,.int .i64 k,.int .i64 d,.int .i64 x0,.int .i64 y0,.int .i64 z0,.int .i64 x1,.int .i64 y1,.int .i64 z1,.int .i64 ct,.int .i64 dx,.int .i64 dy,.int .i64 dz] 75)));have HL:=hide hl;clear hlook hmw hm htw hs hu htk hl
 have hwr : wrg fs ⟨s,o,v,k,d,x0,y0,z0,x1,y1,z1,ct,dx,dy,dz⟩ = if emp o = false ∧ findN fs o = none then some o else if emp v = false then (match findN fs v with | none => some v | some q => if (fs.getD q ft0).kd = 3 ∨ emp (fs.getD q ft0).on = false then some v else none) else none:=rfl;have hnm : nmd fs ⟨s,o,v,k,d,x0,y0,z0,x1,y1,z1,ct,dx,dy,dz⟩ = (if emp o then [] else [(findN fs o).getD 0]) ++ (if emp v then [] else [(findN fs v).getD 0]):=rfl;simp only at h1
 by_cases eo : o.toList = []
 ·have eo' : (o.toList == []) = true:=by simp [eo]
  have c1 : emp o = true:=by rw [emp_l];exact eo'
  rw [if_neg (by rw [c1];simp)] at hwr;rw [if_pos c1] at hnm
  by_cases ev : v.toList = []
  ·have ev' : (v.toList == []) = true:=by simp [ev]
   have c2 : emp v = true:=by rw [emp_l];exact ev'
   rw [if_neg (by rw [c2];simp)] at hwr;rw [if_pos c2] at hnm;have HWR:=hide hwr;have HNM:=hide hnm;clear c1 c2 h1 lo lv hwr hnm;unfold ftv;go_enter Tryz.func148,Tryz.ntmps148;go_wp2_with fail;refine bodyPost_ret (v:=.tuple #[.slice none 0 0,.string ⟨#[]⟩,.int .i64 0]) (by simp [results,Tryz.results148,go_sem];done) rfl ?_;exact nb_ok (zu HWR) ⟨_,_,_,rfl⟩ (by rw [zu HNM];exact own_nil _ _ _ _) (zu HB)
  ·have ev' : (v.toList == []) = false:=by simpa using ev
   have c2 : emp v = false:=by rw [emp_l];exact ev'
   rw [if_pos c2] at hwr;rw [if_neg (by rw [c2];simp)] at hnm;clear c1 c2 h1 lo
   cases hf : findN fs v with
   | none =>
    rw [hf] at lv hwr;have HWR:=hide hwr;simp only [Option.isSome_none] at lv;clear hf hwr hnm;unfold ftv;go_enter Tryz.func148,Tryz.ntmps148;go_wp2_with fail
    go_quiet (fail)
    go_wp2_with fail;refine bodyPost_ret (v:=.tuple #[.slice none 0 0,.string v,.int .i64 6]) (by simp [results,Tryz.results148,go_sem];done) rfl ?_;exact nb_bad (zu HWR) ((zu HB).trans ⟨rfl,rfl,rfl,Nat.le_refl _,fun _ _ => rfl⟩)
   | some q =>
    have hz : findZ fs v = (q : Int):=by unfold findZ;rw [hf]
    rw [hf,hz] at lv;rw [hf] at hwr hnm;simp only [Option.isSome_some] at lv;obtain ⟨g,hg,_⟩:=findN_at hf;have hq : (q : Int) < (n : Int):=by have:=findN_lt hf;have:=zu HL;omega
    have hq0 : (0 : Int) ≤ (q : Int):=by omega
    have hqn : q < n:=by omega
    simp only [List.getD_eq_getElem?_getD,hg,Option.getD_some] at hwr hnm;have HNM:=hide hnm;obtain ⟨rfl,pw,hc⟩:=(zu HU).at hg;have k1:=hc 1 (.string g.on) rfl;have k3:=hc 3 (.int .i64 g.kd) rfl;clear hc hf hg hz hnm
    by_cases q3 : g.kd = 3
    ·rw [if_pos (.inl q3)] at hwr
     have HWR:=hide hwr;have q3' : (g.kd == 3) = true:=by simp [q3]
     clear q3 hwr;unfold ftv;go_enter Tryz.func148,Tryz.ntmps148;go_wp2_with fail
     go_quiet (fail)
     go_wp2_with fail;refine bodyPost_ret (v:=.tuple #[.slice none 0 0,.string v,.int .i64 6]) (by simp [results,Tryz.results148,go_sem];done) rfl ?_;exact nb_bad (zu HWR) ((zu HB).trans ⟨rfl,rfl,rfl,Nat.le_refl _,fun _ _ => rfl⟩)
    have q3' : (g.kd == 3) = false:=by simpa using q3
    by_cases q4 : g.on.toList = []
    ·have q4' : (g.on.toList == []) = true:=by simp [q4]
     rw [if_neg (by rw [emp_l,q4'];simp [q3])] at hwr;have HWR:=hide hwr;clear hwr;unfold ftv;go_enter Tryz.func148,Tryz.ntmps148
     go_wp2_with (at_builtin;refine zu ?_)
     refine hide ?_;refine wpList_append_own _ rfl _ _ 94 rfl (w.heap.size + 2) 3 iI _ 1 8 Tryz.underlying94 hi hz0 hz1 hz2 rfl (by decide) (.slice none 0 0) 0 [] rfl (own_nil _ _ _ _) _ 1 1 (natV [q]) rfl rfl (by first | exact news_cells _ _ (by simp) | exact news_cells _ _ rfl) (by intro u hu;simp only [natV,List.map_cons,List.map_nil,List.mem_singleton] at hu;subst hu;rfl) (by unfold maxLen;omega) (by omega) (by simp) ?_;intro v' w1 hown' hgrow _
     have hbw : Below (w.heap.size + 2) ((w.alloc (.cells #[.slice (some ⟨p,po,none⟩) n cu,.map (some b),.slice u3 n3 c3,.slice u4 n4 c4] 135)).alloc (.cells #[.string s,.string o,.string v,.int .i64 k,.int .i64 d,.int .i64 x0,.int .i64 y0,.int .i64 z0,.int .i64 x1,.int .i64 y1,.int .i64 z1,.int .i64 ct,.int .i64 dx,.int .i64 dy,.int .i64 dz] 75)) w1:=(ba (bfl _ _) (.cells (natV [q]).toArray 3) |>.mono (by simp)).grown hgrow (by simp) (fun g hg => by cases hg);have HO2:=hide hown';have HB2:=hide ((zu HB).trans (hbw.mono (by omega)))
     obtain ⟨ua,ca,rfl,_⟩:=own_form hown';clear hown' hgrow hbw;go_wp2_with fail;refine bodyPost_ret (v:=.tuple #[.slice ua (0 + 1) ca,.string ⟨#[]⟩,.int .i64 0]) (by simp [results,Tryz.results148,go_sem];done) rfl ?_;exact nb_ok (zu HWR) ⟨_,_,_,rfl⟩ (by rw [zu HNM];exact zu HO2) (zu HB2)
    ·have q4' : (g.on.toList == []) = false:=by simpa using q4
     rw [if_pos (by rw [emp_l,q4'];simp)] at hwr;have HWR:=hide hwr;clear hwr;unfold ftv;go_enter Tryz.func148,Tryz.ntmps148;go_wp2_with fail
     go_quiet (fail)
     go_wp2_with fail;refine bodyPost_ret (v:=.tuple #[.slice none 0 0,.string v,.int .i64 6]) (by simp [results,Tryz.results148,go_sem];done) rfl ?_;exact nb_bad (zu HWR) ((zu HB).trans ⟨rfl,rfl,rfl,Nat.le_refl _,fun _ _ => rfl⟩)
 ·have eo' : (o.toList == []) = false:=by simpa using eo
  have c1 : emp o = false:=by rw [emp_l];exact eo'
  have c2 : emp v = true:=by
   rcases h1 with h | h
   ·rw [c1] at h;cases h
   ·exact h
  have ev' : (v.toList == []) = true:=by rw [← emp_l];exact c2
  have ev : v.toList = []:=by simpa using ev'
  rw [if_neg (by rw [c1];simp),if_pos c2] at hnm;clear h1 lv
  cases hf : findN fs o with
  | none =>
   rw [if_pos ⟨c1,hf⟩] at hwr;rw [hf] at lo;have HWR:=hide hwr;simp only [Option.isSome_none] at lo;clear hf hwr hnm c1 c2;unfold ftv;go_enter Tryz.func148,Tryz.ntmps148;go_wp2_with fail
   go_quiet (fail)
   go_wp2_with fail;refine bodyPost_ret (v:=.tuple #[.slice none 0 0,.string o,.int .i64 6]) (by simp [results,Tryz.results148,go_sem];done) rfl ?_;exact nb_bad (zu HWR) ((zu HB).trans ⟨rfl,rfl,rfl,Nat.le_refl _,fun _ _ => rfl⟩)
  | some q =>
   rw [if_neg (by rw [hf];simp),if_neg (by rw [c2];simp)] at hwr;have hz : findZ fs o = (q : Int):=by unfold findZ;rw [hf]
   rw [hf,hz] at lo;rw [hf] at hnm;simp only [Option.isSome_some] at lo;have HWR:=hide hwr;have HNM:=hide hnm;clear hf hz hwr hnm c1 c2;unfold ftv;go_enter Tryz.func148,Tryz.ntmps148
   go_wp2_with (at_builtin;refine zu ?_)
   refine hide ?_;refine wpList_append_own _ rfl _ _ 94 rfl (w.heap.size + 2) 3 iI _ 1 8 Tryz.underlying94 hi hz0 hz1 hz2 rfl (by decide) (.slice none 0 0) 0 [] rfl (own_nil _ _ _ _) _ 1 1 (natV [q]) rfl rfl (by first | exact news_cells _ _ (by simp) | exact news_cells _ _ rfl) (by intro u hu;simp only [natV,List.map_cons,List.map_nil,List.mem_singleton] at hu;subst hu;rfl) (by unfold maxLen;omega) (by omega) (by simp) ?_;intro v' w1 hown' hgrow _
   have hbw : Below (w.heap.size + 2) ((w.alloc (.cells #[.slice u n cu,.map (some b),.slice u3 n3 c3,.slice u4 n4 c4] 135)).alloc (.cells #[.string s,.string o,.string v,.int .i64 k,.int .i64 d,.int .i64 x0,.int .i64 y0,.int .i64 z0,.int .i64 x1,.int .i64 y1,.int .i64 z1,.int .i64 ct,.int .i64 dx,.int .i64 dy,.int .i64 dz] 75)) w1:=(ba (bfl _ _) (.cells (natV [q]).toArray 3) |>.mono (by simp)).grown hgrow (by simp) (fun g hg => by cases hg);have HO2:=hide hown';have HB2:=hide ((zu HB).trans (hbw.mono (by omega)))
   have y2:=keepN hbw (b:=w.heap.size + 1) (o:=2) (v:=.string v) (by simp [go_sem]) (by omega);obtain ⟨ua,ca,rfl,_⟩:=own_form hown';clear hown' hgrow hbw;go_wp2_with fail;refine bodyPost_ret (v:=.tuple #[.slice ua (0 + 1) ca,.string ⟨#[]⟩,.int .i64 0]) (by simp [results,Tryz.results148,go_sem];done) rfl ?_;exact nb_ok (zu HWR) ⟨_,_,_,rfl⟩ (by rw [zu HNM];exact zu HO2) (zu HB2)
end Go.Proofs.YtkiplmabjeadgaaGreat
