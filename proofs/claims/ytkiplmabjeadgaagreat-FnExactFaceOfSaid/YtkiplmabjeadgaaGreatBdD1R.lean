/- More of them. -/
import Derived.Test.YtkiplmabjeadgaaGreatBdD5R
namespace Go.Proofs.YtkiplmabjeadgaaGreat
set_option maxRecDepth 100000
set_option maxHeartbeats 16000000
open Go.ChangeShapes Go.WideShapes Go.ChangeAt Go.RowKit
set_option linter.unusedVariables false
set_option linter.unusedSimpArgs false
theorem do17 {s1 s2 s3 s4 s5 s7 s8 s9 s10 s11 s13 s14 s15 s16 s17 s18 s19 s20 s21 s22 s23 s24 s25 s26 s27 s28 s29 s30 s31 s32 s33 s34 s35 s36 s37 s38 s39 s40 s41 s42 s43 s44 s45 s46 s47 s48 s49 s50 s51 s52 s53 s54 s55 s56 s57 s58 s59 s60 s61 s62 s63 s64 s65 s66 s67 s68 s69 s70 s71 s72 s73 s74 s75 s76 s77 s78 s79 s80 s81 s82 s83 s84 s85 s86 s87 s88 s89 s90 s91 s92 s93 s94 s95 s96 s97 s98 s99 s100 s101 s102 s103 s104 s105 s106 s107 s108 s109 s110 s111 s112 s113 s114 s115 s116 s117 s118 s119 s120 s121 s122 s123 s124 s125 s126 s127 s128 s129 s130 s131 s132 s133 s134 s135 s136 s137 s138 s139 s140 s141 s142 s143 s144 s145 s146 s147 s148 s149 s150 s151 s152 s153 s154 s155 s156 s157 s158 s159 s160 s161 s162 s163 s164 s165 s166 s167 s168 s169 s170 s171 s172 s173 s174 s175 s176 s177 s178 s179 s180 s181 s182 s183 s184 s185 s186 : Value} {g gF vo no co k : Nat} {sk on : ByteArray} {V : World} {K_ : Act → World → Prop}
  (HG4 : Hid (V.cell? ⟨g,4,none⟩ = some (.slice (some ⟨vo,0,none⟩) no co))) (HE : Hid (V.cell? ⟨vo,k,none⟩ = some (.string sk))) (HON : Hid (V.cell? ⟨gF,1,none⟩ = some (.string on)))
  (HX5 : Hid (k < no))
  (hQ : ∀  (W1 : World),Below V.heap.size V W1 → K_ { tmps:=#[.pointer (some ⟨g,0,none⟩),s1,s2,s3,s4,s5,.pointer (some ⟨gF,0,none⟩),s7,s8,s9,s10,s11,.int .i64 (k : Int),s13,s14,s15,s16,s17,s18,s19,s20,s21,s22,s23,s24,s25,s26,s27,s28,s29,s30,s31,s32,s33,s34,s35,s36,s37,s38,s39,s40,s41,s42,s43,s44,s45,s46,s47,s48,s49,s50,s51,s52,s53,s54,s55,s56,s57,s58,s59,s60,s61,s62,s63,s64,s65,s66,s67,s68,s69,s70,s71,s72,s73,s74,s75,s76,s77,s78,s79,s80,s81,s82,.pointer (some ⟨g,0,none⟩),.pointer (some ⟨g,0,none⟩),.pointer (some ⟨g,4,none⟩),.slice (some ⟨vo,0,none⟩) no co,.int .i64 (k : Int),.pointer (some ⟨vo,k,none⟩),.string sk,.pointer (some ⟨gF,1,none⟩),.string on,.bool (sk.toList == on.toList),s93,s94,s95,s96,s97,s98,s99,s100,s101,s102,s103,s104,s105,s106,s107,s108,s109,s110,s111,s112,s113,s114,s115,s116,s117,s118,s119,s120,s121,s122,s123,s124,s125,s126,s127,s128,s129,s130,s131,s132,s133,s134,s135,s136,s137,s138,s139,s140,s141,s142,s143,s144,s145,s146,s147,s148,s149,s150,s151,s152,s153,s154,s155,s156,s157,s158,s159,s160,s161,s162,s163,s164,s165,s166,s167,s168,s169,s170,s171,s172,s173,s174,s175,s176,s177,s178,s179,s180,s181,s182,s183,s184,s185,s186],defers:=[] } W1) :
  Go.Code.wp Tryz.prog (rg78 17) (Only K_) { tmps:=#[.pointer (some ⟨g,0,none⟩),s1,s2,s3,s4,s5,.pointer (some ⟨gF,0,none⟩),s7,s8,s9,s10,s11,.int .i64 (k : Int),s13,s14,s15,s16,s17,s18,s19,s20,s21,s22,s23,s24,s25,s26,s27,s28,s29,s30,s31,s32,s33,s34,s35,s36,s37,s38,s39,s40,s41,s42,s43,s44,s45,s46,s47,s48,s49,s50,s51,s52,s53,s54,s55,s56,s57,s58,s59,s60,s61,s62,s63,s64,s65,s66,s67,s68,s69,s70,s71,s72,s73,s74,s75,s76,s77,s78,s79,s80,s81,s82,s83,s84,s85,s86,s87,s88,s89,s90,s91,s92,s93,s94,s95,s96,s97,s98,s99,s100,s101,s102,s103,s104,s105,s106,s107,s108,s109,s110,s111,s112,s113,s114,s115,s116,s117,s118,s119,s120,s121,s122,s123,s124,s125,s126,s127,s128,s129,s130,s131,s132,s133,s134,s135,s136,s137,s138,s139,s140,s141,s142,s143,s144,s145,s146,s147,s148,s149,s150,s151,s152,s153,s154,s155,s156,s157,s158,s159,s160,s161,s162,s163,s164,s165,s166,s167,s168,s169,s170,s171,s172,s173,s174,s175,s176,s177,s178,s179,s180,s181,s182,s183,s184,s185,s186],defers:=[] } V:=by
 have HQ:=hide hQ;clear hQ
 conv => arg 2;whnf
 refine wp_region_inv2 (fun Lb A W => ∃ (u0 u1 u2 u3 u4 u5 u6 u7 u8 u9 : Bool) (dm : Nat),Lb = #[u0,u1,u2,u3,u4,u5,u6,u7,u8,u9] ∧ A = ({ tmps:=#[.pointer (some ⟨g,0,none⟩),s1,s2,s3,s4,s5,.pointer (some ⟨gF,0,none⟩),s7,s8,s9,s10,s11,.int .i64 (k : Int),s13,s14,s15,s16,s17,s18,s19,s20,s21,s22,s23,s24,s25,s26,s27,s28,s29,s30,s31,s32,s33,s34,s35,s36,s37,s38,s39,s40,s41,s42,s43,s44,s45,s46,s47,s48,s49,s50,s51,s52,s53,s54,s55,s56,s57,s58,s59,s60,s61,s62,s63,s64,s65,s66,s67,s68,s69,s70,s71,s72,s73,s74,s75,s76,s77,s78,s79,s80,s81,s82,(bif u0 then .pointer (some ⟨g,0,none⟩) else s83),(bif u1 then .pointer (some ⟨g,0,none⟩) else s84),(bif u2 then .pointer (some ⟨g,4,none⟩) else s85),(bif u3 then .slice (some ⟨vo,0,none⟩) no co else s86),(bif u4 then .int .i64 (k : Int) else s87),(bif u5 then .pointer (some ⟨vo,k,none⟩) else s88),(bif u6 then .string sk else s89),(bif u7 then .pointer (some ⟨gF,1,none⟩) else s90),(bif u8 then .string on else s91),(bif u9 then .bool (sk.toList == on.toList) else s92),s93,s94,s95,s96,s97,s98,s99,s100,s101,s102,s103,s104,s105,s106,s107,s108,s109,s110,s111,s112,s113,s114,s115,s116,s117,s118,s119,s120,s121,s122,s123,s124,s125,s126,s127,s128,s129,s130,s131,s132,s133,s134,s135,s136,s137,s138,s139,s140,s141,s142,s143,s144,s145,s146,s147,s148,s149,s150,s151,s152,s153,s154,s155,s156,s157,s158,s159,s160,s161,s162,s163,s164,s165,s166,s167,s168,s169,s170,s171,s172,s173,s174,s175,s176,s177,s178,s179,s180,s181,s182,s183,s184,s185,s186],defers:=[] } : Act) ∧ Below V.heap.size V W ∧ (u1 = true → u0 = true) ∧ (u2 = true → u1 = true) ∧ (u3 = true → u2 = true) ∧ (u5 = true → u3 = true ∧ u4 = true) ∧ (u6 = true → u5 = true) ∧ (u8 = true → u7 = true) ∧ (u9 = true → u0 = true ∧ u1 = true ∧ u2 = true ∧ u3 = true ∧ u4 = true ∧ u5 = true ∧ u6 = true ∧ u7 = true ∧ u8 = true)) (by kernel_rfl) (by kernel_rfl) ?h0 ?hstep ?hend
 case h0 =>
  exact ⟨false,false,false,false,false,false,false,false,false,false,0,rfl,rfl,Below.drew (bfl _ _),zf,zf,zf,zf,zf,zf,zf⟩
 case hstep =>
  intro Lb A W hI;obtain ⟨u0,u1,u2,u3,u4,hI⟩:=hI;obtain ⟨u5,u6,u7,u8,u9,hI⟩:=hI;obtain ⟨dm,hI⟩:=hI;obtain ⟨hLb,hI⟩:=hI;obtain ⟨hA,hI⟩:=hI;obtain ⟨kB,hI⟩:=hI;obtain ⟨l1,hI⟩:=hI;obtain ⟨l2,hI⟩:=hI;obtain ⟨l3,hI⟩:=hI;obtain ⟨l5,hI⟩:=hI;obtain ⟨l6,hI⟩:=hI;obtain ⟨l8,hI⟩:=hI;have kF:=hI;clear hI;subst hLb;subst hA;replace kB:=hide kB;replace l1:=hide l1;replace l2:=hide l2;replace l3:=hide l3;replace l5:=hide l5;replace l6:=hide l6;replace l8:=hide l8;replace kF:=hide kF;refine ⟨?_,?_,?_,?_,?_,?_,?_,?_,?_,?_,trivial⟩
  ·intro h0 hd K hK
   have z : u0 = false:=h0;have z9_ : u9 = false:=znb fun hu => z.symm.trans ((zu kF hu).1)
   subst z9_;subst z;clear h0 hd;rw [if_pos (by rfl)];go_simp;exact zu hK _ _ ⟨true,u1,u2,u3,u4,u5,u6,u7,u8,false,dm,rfl,rfl,zu kB,(fun h => rfl),zu l2,zu l3,zu l5,zu l6,zu l8,zf⟩
  ·intro h0 hd K hK
   have z : u1 = false:=h0;have z9_ : u9 = false:=znb fun hu => z.symm.trans ((zu kF hu).2.1)
   obtain ⟨rfl⟩ : u0 = true:=by simp [Region.binds] at hd;simp [hd]
   subst z9_;subst z;clear h0 hd;rw [if_pos (by rfl)];go_simp;exact zu hK _ _ ⟨true,true,u2,u3,u4,u5,u6,u7,u8,false,dm,rfl,rfl,zu kB,(fun _ => rfl),(fun h => rfl),zu l3,zu l5,zu l6,zu l8,zf⟩
  ·intro h0 hd K hK
   have z : u2 = false:=h0;have z9_ : u9 = false:=znb fun hu => z.symm.trans ((zu kF hu).2.2.1)
   obtain ⟨rfl⟩ : u1 = true:=by simp [Region.binds] at hd;simp [hd]
   subst z9_;subst z;clear h0 hd;rw [if_pos (by rfl)];go_simp;exact zu hK _ _ ⟨u0,true,true,u3,u4,u5,u6,u7,u8,false,dm,rfl,rfl,zu kB,zu l1,(fun _ => rfl),(fun h => rfl),zu l5,zu l6,zu l8,zf⟩
  ·intro h0 hd K hK
   have z : u3 = false:=h0;have z9_ : u9 = false:=znb fun hu => z.symm.trans ((zu kF hu).2.2.2.1)
   obtain ⟨rfl⟩ : u2 = true:=by simp [Region.binds] at hd;simp [hd]
   subst z9_;subst z;clear h0 hd;rw [if_pos (by rfl)];have c0:=keep1 (zu kB) (zu HG4);go_simp;exact zu hK _ _ ⟨u0,u1,true,true,u4,u5,u6,u7,u8,false,dm,rfl,rfl,zu kB,zu l1,zu l2,(fun _ => rfl),(fun h => ⟨rfl,(zu l5 h).2⟩),zu l6,zu l8,zf⟩
  ·intro h0 hd K hK
   have z : u4 = false:=h0;have z9_ : u9 = false:=znb fun hu => z.symm.trans ((zu kF hu).2.2.2.2.1)
   subst z9_;subst z;clear h0 hd;rw [if_pos (by rfl)];go_simp;exact zu hK _ _ ⟨u0,u1,u2,u3,true,u5,u6,u7,u8,false,dm,rfl,rfl,zu kB,zu l1,zu l2,zu l3,(fun h => ⟨(zu l5 h).1,rfl⟩),zu l6,zu l8,zf⟩
  ·intro h0 hd K hK
   have z : u5 = false:=h0;have z9_ : u9 = false:=znb fun hu => z.symm.trans ((zu kF hu).2.2.2.2.2.1)
   obtain ⟨rfl,rfl⟩ : u3 = true ∧ u4 = true:=by simp [Region.binds] at hd;simp [hd]
   subst z9_;subst z;clear h0 hd;rw [if_pos (by rfl)];have q1 : k < no:=zu HX5;have q2 : (k : Int) < (no : Int):=by omega
   go_simp;exact zu hK _ _ ⟨u0,u1,u2,true,true,true,u6,u7,u8,false,dm,rfl,rfl,zu kB,zu l1,zu l2,zu l3,(fun _ => ⟨rfl,rfl⟩),(fun h => rfl),zu l8,zf⟩
  ·intro h0 hd K hK
   have z : u6 = false:=h0;have z9_ : u9 = false:=znb fun hu => z.symm.trans ((zu kF hu).2.2.2.2.2.2.1)
   obtain ⟨rfl⟩ : u5 = true:=by simp [Region.binds] at hd;simp [hd]
   subst z9_;subst z;clear h0 hd;rw [if_pos (by rfl)];have c0:=keep1 (zu kB) (zu HE);go_simp;exact zu hK _ _ ⟨u0,u1,u2,u3,u4,true,true,u7,u8,false,dm,rfl,rfl,zu kB,zu l1,zu l2,zu l3,zu l5,(fun _ => rfl),zu l8,zf⟩
  ·intro h0 hd K hK
   have z : u7 = false:=h0;have z9_ : u9 = false:=znb fun hu => z.symm.trans ((zu kF hu).2.2.2.2.2.2.2.1)
   subst z9_;subst z;clear h0 hd;rw [if_pos (by rfl)];go_simp;exact zu hK _ _ ⟨u0,u1,u2,u3,u4,u5,u6,true,u8,false,dm,rfl,rfl,zu kB,zu l1,zu l2,zu l3,zu l5,zu l6,(fun h => rfl),zf⟩
  ·intro h0 hd K hK
   have z : u8 = false:=h0;have z9_ : u9 = false:=znb fun hu => z.symm.trans ((zu kF hu).2.2.2.2.2.2.2.2)
   obtain ⟨rfl⟩ : u7 = true:=by simp [Region.binds] at hd;simp [hd]
   subst z9_;subst z;clear h0 hd;rw [if_pos (by rfl)];have c0:=keep1 (zu kB) (zu HON);go_simp;exact zu hK _ _ ⟨u0,u1,u2,u3,u4,u5,u6,true,true,false,dm,rfl,rfl,zu kB,zu l1,zu l2,zu l3,zu l5,zu l6,(fun _ => rfl),zf⟩
  ·intro h0 hd K hK
   have z : u9 = false:=h0
   have zd0 : u6 = true ∧ u8 = true:=by
    simp [Region.binds] at hd;simp [hd]
   have zd : u6 = true ∧ u8 = true ∧ u0 = true ∧ u1 = true ∧ u2 = true ∧ u3 = true ∧ u4 = true ∧ u5 = true ∧ u7 = true:=⟨zd0.1,zd0.2,(zu l1 (zu l2 (zu l3 (zu l5 (zu l6 zd0.1)).1))),(zu l2 (zu l3 (zu l5 (zu l6 zd0.1)).1)),(zu l3 (zu l5 (zu l6 zd0.1)).1),(zu l5 (zu l6 zd0.1)).1,(zu l5 (zu l6 zd0.1)).2,(zu l6 zd0.1),(zu l8 zd0.2)⟩
   obtain ⟨rfl,rfl,rfl,rfl,rfl,rfl,rfl,rfl,rfl⟩:=zd;subst z;clear h0 hd;rw [if_pos (by rfl)];go_simp;exact zu hK _ _ ⟨true,true,true,true,true,true,true,true,true,true,dm,rfl,rfl,zu kB,(fun _ => rfl),(fun _ => rfl),(fun _ => rfl),(fun _ => ⟨rfl,rfl⟩),(fun _ => rfl),(fun _ => rfl),(fun _ => ⟨rfl,rfl,rfl,rfl,rfl,rfl,rfl,rfl,rfl⟩)⟩
 case hend =>
  intro Lb A W hI;obtain ⟨u0,u1,u2,u3,u4,hI⟩:=hI;obtain ⟨u5,u6,u7,u8,u9,hI⟩:=hI;obtain ⟨dm,hI⟩:=hI;obtain ⟨hLb,hI⟩:=hI;obtain ⟨hA,hI⟩:=hI;obtain ⟨kB,hI⟩:=hI;obtain ⟨l1,hI⟩:=hI;obtain ⟨l2,hI⟩:=hI;obtain ⟨l3,hI⟩:=hI;obtain ⟨l5,hI⟩:=hI;obtain ⟨l6,hI⟩:=hI;obtain ⟨l8,hI⟩:=hI;have kF:=hI;clear hI;subst hLb;subst hA;intro hL
  have hl : u0 = true ∧ u1 = true ∧ u2 = true ∧ u3 = true ∧ u4 = true ∧ u5 = true ∧ u6 = true ∧ u7 = true ∧ u8 = true ∧ u9 = true:=by
   have h2:=congrArg Array.toList hL
   simpa [List.replicate] using h2
  obtain ⟨rfl,rfl,rfl,rfl,rfl,rfl,rfl,rfl,rfl,rfl⟩:=hl;exact zu HQ   W kB
theorem do21 {s0 s1 s2 s3 s4 s5 s7 s8 s9 s10 s11 s12 s13 s14 s15 s16 s17 s18 s19 s20 s21 s22 s23 s24 s25 s26 s27 s28 s29 s30 s31 s32 s33 s34 s35 s36 s37 s38 s39 s40 s41 s42 s43 s44 s45 s46 s47 s48 s49 s50 s51 s52 s53 s54 s55 s56 s57 s58 s59 s60 s61 s62 s63 s64 s65 s66 s67 s68 s69 s70 s71 s72 s73 s74 s75 s76 s77 s78 s79 s80 s81 s82 s83 s84 s85 s86 s87 s88 s89 s90 s91 s92 s93 s94 s95 s96 s97 s98 s99 s100 s101 s102 s103 s104 s105 s106 s107 s108 s109 s110 s111 s112 s113 s114 s115 s116 s117 s118 s119 s120 s121 s122 s123 s124 s125 s126 s127 s128 s129 s130 s131 s132 s133 s134 s135 s136 s137 s138 s139 s140 s141 s142 s143 s144 s145 s146 s147 s148 s149 s150 s151 s152 s153 s154 s155 s156 s157 s158 s159 s160 s161 s162 s163 s164 s165 s166 s167 s168 s169 s170 s171 s172 s173 s174 s175 s176 s177 s178 s179 s180 s181 s182 s183 s184 s185 s186 : Value} {gF : Nat} {nm on : ByteArray} {V : World} {K_ : Act → World → Prop}
  (HNM : Hid (V.cell? ⟨gF,0,none⟩ = some (.string nm))) (HON : Hid (V.cell? ⟨gF,1,none⟩ = some (.string on)))
  (hQ : ∀ (n4 : Nat)  (W1 : World),Below V.heap.size V W1 → vb W1 n4 9 [.string nm,.string on] → V.heap.size ≤ n4 → K_ { tmps:=#[s0,s1,s2,s3,.int .i64 (8),.slice (some ⟨n4,0,none⟩) 2 2,.pointer (some ⟨gF,0,none⟩),s7,s8,s9,s10,s11,s12,s13,s14,s15,s16,s17,s18,s19,s20,s21,s22,s23,s24,s25,s26,s27,s28,s29,s30,s31,s32,s33,s34,s35,s36,s37,s38,s39,s40,s41,s42,s43,s44,s45,s46,s47,s48,s49,s50,s51,s52,s53,s54,s55,s56,s57,s58,s59,s60,s61,s62,s63,s64,s65,s66,s67,s68,s69,s70,s71,s72,s73,s74,s75,s76,s77,s78,s79,s80,s81,s82,s83,s84,s85,s86,s87,s88,s89,s90,s91,s92,s93,s94,s95,s96,s97,s98,s99,s100,s101,s102,s103,.pointer (some ⟨gF,0,none⟩),.string nm,.pointer (some ⟨gF,1,none⟩),.string on,.slice (some ⟨n4,0,none⟩) 2 2,s109,s110,s111,s112,s113,s114,s115,s116,s117,s118,s119,s120,s121,s122,s123,s124,s125,s126,s127,s128,s129,s130,s131,s132,s133,s134,s135,s136,s137,s138,s139,s140,s141,s142,s143,s144,s145,s146,s147,s148,s149,s150,s151,s152,s153,s154,s155,s156,s157,s158,s159,s160,s161,s162,s163,s164,s165,s166,s167,s168,s169,s170,s171,s172,s173,s174,s175,s176,s177,s178,s179,s180,s181,s182,s183,s184,s185,s186],defers:=[] } W1) :
  Go.Code.wp Tryz.prog (rg78 21) (Only K_) { tmps:=#[s0,s1,s2,s3,s4,s5,.pointer (some ⟨gF,0,none⟩),s7,s8,s9,s10,s11,s12,s13,s14,s15,s16,s17,s18,s19,s20,s21,s22,s23,s24,s25,s26,s27,s28,s29,s30,s31,s32,s33,s34,s35,s36,s37,s38,s39,s40,s41,s42,s43,s44,s45,s46,s47,s48,s49,s50,s51,s52,s53,s54,s55,s56,s57,s58,s59,s60,s61,s62,s63,s64,s65,s66,s67,s68,s69,s70,s71,s72,s73,s74,s75,s76,s77,s78,s79,s80,s81,s82,s83,s84,s85,s86,s87,s88,s89,s90,s91,s92,s93,s94,s95,s96,s97,s98,s99,s100,s101,s102,s103,s104,s105,s106,s107,s108,s109,s110,s111,s112,s113,s114,s115,s116,s117,s118,s119,s120,s121,s122,s123,s124,s125,s126,s127,s128,s129,s130,s131,s132,s133,s134,s135,s136,s137,s138,s139,s140,s141,s142,s143,s144,s145,s146,s147,s148,s149,s150,s151,s152,s153,s154,s155,s156,s157,s158,s159,s160,s161,s162,s163,s164,s165,s166,s167,s168,s169,s170,s171,s172,s173,s174,s175,s176,s177,s178,s179,s180,s181,s182,s183,s184,s185,s186],defers:=[] } V:=by
 have HQ:=hide hQ;clear hQ
 conv => arg 2;whnf
 refine wp_region_inv2 (fun Lb A W => ∃ (u0 u1 u2 u3 u4 u5 u6 : Bool) (n4 : Nat),Lb = #[u0,u1,u2,u3,u4,u5,u6] ∧ A = ({ tmps:=#[s0,s1,s2,s3,(bif u5 then .int .i64 (8) else s4),(bif u6 then .slice (some ⟨n4,0,none⟩) 2 2 else s5),.pointer (some ⟨gF,0,none⟩),s7,s8,s9,s10,s11,s12,s13,s14,s15,s16,s17,s18,s19,s20,s21,s22,s23,s24,s25,s26,s27,s28,s29,s30,s31,s32,s33,s34,s35,s36,s37,s38,s39,s40,s41,s42,s43,s44,s45,s46,s47,s48,s49,s50,s51,s52,s53,s54,s55,s56,s57,s58,s59,s60,s61,s62,s63,s64,s65,s66,s67,s68,s69,s70,s71,s72,s73,s74,s75,s76,s77,s78,s79,s80,s81,s82,s83,s84,s85,s86,s87,s88,s89,s90,s91,s92,s93,s94,s95,s96,s97,s98,s99,s100,s101,s102,s103,(bif u0 then .pointer (some ⟨gF,0,none⟩) else s104),(bif u1 then .string nm else s105),(bif u2 then .pointer (some ⟨gF,1,none⟩) else s106),(bif u3 then .string on else s107),(bif u4 then .slice (some ⟨n4,0,none⟩) 2 2 else s108),s109,s110,s111,s112,s113,s114,s115,s116,s117,s118,s119,s120,s121,s122,s123,s124,s125,s126,s127,s128,s129,s130,s131,s132,s133,s134,s135,s136,s137,s138,s139,s140,s141,s142,s143,s144,s145,s146,s147,s148,s149,s150,s151,s152,s153,s154,s155,s156,s157,s158,s159,s160,s161,s162,s163,s164,s165,s166,s167,s168,s169,s170,s171,s172,s173,s174,s175,s176,s177,s178,s179,s180,s181,s182,s183,s184,s185,s186],defers:=[] } : Act) ∧ Below V.heap.size V W ∧ (u4 = true → vb W n4 9 [.string nm,.string on] ∧ V.heap.size ≤ n4) ∧ (u6 = true → u0 = true ∧ u1 = true ∧ u2 = true ∧ u3 = true ∧ u4 = true ∧ u5 = true)) (by kernel_rfl) (by kernel_rfl) ?h0 ?hstep ?hend
 case h0 =>
  exact ⟨false,false,false,false,false,false,false,0,rfl,rfl,Below.drew (bfl _ _),zf,zf⟩
 case hstep =>
  intro Lb A W hI;obtain ⟨u0,u1,u2,u3,u4,hI⟩:=hI;obtain ⟨u5,u6,n4,hI⟩:=hI;obtain ⟨hLb,hI⟩:=hI;obtain ⟨hA,hI⟩:=hI;obtain ⟨kB,hI⟩:=hI;obtain ⟨k4,hI⟩:=hI;have kF:=hI;clear hI;subst hLb;subst hA;replace kB:=hide kB;replace k4:=hide k4;replace kF:=hide kF;refine ⟨?_,?_,?_,?_,?_,?_,?_,trivial⟩
  ·intro h0 hd K hK
   have z : u0 = false:=h0;have z6_ : u6 = false:=znb fun hu => z.symm.trans ((zu kF hu).1)
   subst z6_;subst z;clear h0 hd;rw [if_pos (by rfl)];go_simp;exact zu hK _ _ ⟨true,u1,u2,u3,u4,u5,false,n4,rfl,rfl,zu kB,zu k4,zf⟩
  ·intro h0 hd K hK
   have z : u1 = false:=h0;have z6_ : u6 = false:=znb fun hu => z.symm.trans ((zu kF hu).2.1)
   obtain ⟨rfl⟩ : u0 = true:=by simp [Region.binds] at hd;simp [hd]
   subst z6_;subst z;clear h0 hd;rw [if_pos (by rfl)];have c0:=keep1 (zu kB) (zu HNM);go_simp;exact zu hK _ _ ⟨true,true,u2,u3,u4,u5,false,n4,rfl,rfl,zu kB,zu k4,zf⟩
  ·intro h0 hd K hK
   have z : u2 = false:=h0;have z6_ : u6 = false:=znb fun hu => z.symm.trans ((zu kF hu).2.2.1)
   subst z6_;subst z;clear h0 hd;rw [if_pos (by rfl)];go_simp;exact zu hK _ _ ⟨u0,u1,true,u3,u4,u5,false,n4,rfl,rfl,zu kB,zu k4,zf⟩
  ·intro h0 hd K hK
   have z : u3 = false:=h0;have z6_ : u6 = false:=znb fun hu => z.symm.trans ((zu kF hu).2.2.2.1)
   obtain ⟨rfl⟩ : u2 = true:=by simp [Region.binds] at hd;simp [hd]
   subst z6_;subst z;clear h0 hd;rw [if_pos (by rfl)];have c0:=keep1 (zu kB) (zu HON);go_simp;exact zu hK _ _ ⟨u0,u1,true,true,u4,u5,false,n4,rfl,rfl,zu kB,zu k4,zf⟩
  ·intro h0 hd K hK
   have z : u4 = false:=h0;have z6_ : u6 = false:=znb fun hu => z.symm.trans ((zu kF hu).2.2.2.2.1)
   obtain ⟨rfl,rfl⟩ : u1 = true ∧ u3 = true:=by simp [Region.binds] at hd;simp [hd]
   subst z6_;subst z;clear h0 hd;rw [if_pos (by rfl)];go_simp;exact zu hK _ _ ⟨u0,true,u2,true,true,u5,false,W.heap.size,rfl,rfl,ba (zu kB) _,(fun _ => ⟨vb_new W 9 _ _ rfl,(zu kB).size⟩),zf⟩
  ·intro h0 hd K hK
   have z : u5 = false:=h0;have z6_ : u6 = false:=znb fun hu => z.symm.trans ((zu kF hu).2.2.2.2.2)
   subst z6_;subst z;clear h0 hd;rw [if_pos (by rfl)];go_simp;exact zu hK _ _ ⟨u0,u1,u2,u3,u4,true,false,n4,rfl,rfl,zu kB,zu k4,zf⟩
  ·intro h0 hd K hK
   have z : u6 = false:=h0
   have zd0 : u0 = true ∧ u1 = true ∧ u2 = true ∧ u3 = true ∧ u4 = true ∧ u5 = true:=by
    simp [Region.binds] at hd;simp [hd]
   have zd : u0 = true ∧ u1 = true ∧ u2 = true ∧ u3 = true ∧ u4 = true ∧ u5 = true:=⟨zd0.1,zd0.2.1,zd0.2.2.1,zd0.2.2.2.1,zd0.2.2.2.2.1,zd0.2.2.2.2.2⟩
   obtain ⟨rfl,rfl,rfl,rfl,rfl,rfl⟩:=zd;subst z;clear h0 hd;rw [if_pos (by rfl)];go_simp;exact zu hK _ _ ⟨true,true,true,true,true,true,true,n4,rfl,rfl,zu kB,zu k4,(fun _ => ⟨rfl,rfl,rfl,rfl,rfl,rfl⟩)⟩
 case hend =>
  intro Lb A W hI;obtain ⟨u0,u1,u2,u3,u4,hI⟩:=hI;obtain ⟨u5,u6,n4,hI⟩:=hI;obtain ⟨hLb,hI⟩:=hI;obtain ⟨hA,hI⟩:=hI;obtain ⟨kB,hI⟩:=hI;obtain ⟨k4,hI⟩:=hI;have kF:=hI;clear hI;subst hLb;subst hA;intro hL
  have hl : u0 = true ∧ u1 = true ∧ u2 = true ∧ u3 = true ∧ u4 = true ∧ u5 = true ∧ u6 = true:=by
   have h2:=congrArg Array.toList hL
   simpa [List.replicate] using h2
  obtain ⟨rfl,rfl,rfl,rfl,rfl,rfl,rfl⟩:=hl;exact zu HQ n4  W kB (k4 rfl).1 (k4 rfl).2
theorem do23 {s0 s1 s2 s3 s4 s5 s7 s8 s9 s10 s11 s12 s13 s14 s15 s16 s17 s18 s19 s20 s21 s22 s23 s24 s25 s26 s27 s28 s29 s30 s31 s32 s33 s34 s35 s36 s37 s38 s39 s40 s41 s42 s43 s44 s45 s46 s47 s48 s49 s50 s51 s52 s53 s54 s55 s56 s57 s58 s59 s60 s61 s62 s63 s64 s65 s66 s67 s68 s69 s70 s71 s72 s73 s74 s75 s76 s77 s78 s79 s80 s81 s82 s83 s84 s85 s86 s87 s88 s89 s90 s91 s92 s93 s94 s95 s96 s97 s98 s99 s100 s101 s102 s103 s104 s105 s106 s107 s108 s109 s110 s111 s112 s113 s114 s115 s116 s117 s118 s119 s120 s121 s122 s123 s124 s125 s126 s127 s128 s129 s130 s131 s132 s133 s134 s135 s136 s137 s138 s139 s140 s141 s142 s143 s144 s145 s146 s147 s148 s149 s150 s151 s152 s153 s154 s155 s156 s157 s158 s159 s160 s161 s162 s163 s164 s165 s166 s167 s168 s169 s170 s171 s172 s173 s174 s175 s176 s177 s178 s179 s180 s181 s182 s183 s184 s185 s186 : Value} {gF : Nat} {nm on : ByteArray} {V : World} {K_ : Act → World → Prop}
  (HNM : Hid (V.cell? ⟨gF,0,none⟩ = some (.string nm))) (HON : Hid (V.cell? ⟨gF,1,none⟩ = some (.string on)))
  (hQ : ∀ (n4 : Nat)  (W1 : World),Below V.heap.size V W1 → vb W1 n4 9 [.string nm,.string on] → V.heap.size ≤ n4 → K_ { tmps:=#[s0,s1,s2,s3,.int .i64 (13),.slice (some ⟨n4,0,none⟩) 2 2,.pointer (some ⟨gF,0,none⟩),s7,s8,s9,s10,s11,s12,s13,s14,s15,s16,s17,s18,s19,s20,s21,s22,s23,s24,s25,s26,s27,s28,s29,s30,s31,s32,s33,s34,s35,s36,s37,s38,s39,s40,s41,s42,s43,s44,s45,s46,s47,s48,s49,s50,s51,s52,s53,s54,s55,s56,s57,s58,s59,s60,s61,s62,s63,s64,s65,s66,s67,s68,s69,s70,s71,s72,s73,s74,s75,s76,s77,s78,s79,s80,s81,s82,s83,s84,s85,s86,s87,s88,s89,s90,s91,s92,s93,s94,s95,s96,s97,s98,s99,s100,s101,s102,s103,s104,s105,s106,s107,s108,s109,s110,s111,.pointer (some ⟨gF,0,none⟩),.string nm,.pointer (some ⟨gF,1,none⟩),.string on,.slice (some ⟨n4,0,none⟩) 2 2,s117,s118,s119,s120,s121,s122,s123,s124,s125,s126,s127,s128,s129,s130,s131,s132,s133,s134,s135,s136,s137,s138,s139,s140,s141,s142,s143,s144,s145,s146,s147,s148,s149,s150,s151,s152,s153,s154,s155,s156,s157,s158,s159,s160,s161,s162,s163,s164,s165,s166,s167,s168,s169,s170,s171,s172,s173,s174,s175,s176,s177,s178,s179,s180,s181,s182,s183,s184,s185,s186],defers:=[] } W1) :
  Go.Code.wp Tryz.prog (rg78 23) (Only K_) { tmps:=#[s0,s1,s2,s3,s4,s5,.pointer (some ⟨gF,0,none⟩),s7,s8,s9,s10,s11,s12,s13,s14,s15,s16,s17,s18,s19,s20,s21,s22,s23,s24,s25,s26,s27,s28,s29,s30,s31,s32,s33,s34,s35,s36,s37,s38,s39,s40,s41,s42,s43,s44,s45,s46,s47,s48,s49,s50,s51,s52,s53,s54,s55,s56,s57,s58,s59,s60,s61,s62,s63,s64,s65,s66,s67,s68,s69,s70,s71,s72,s73,s74,s75,s76,s77,s78,s79,s80,s81,s82,s83,s84,s85,s86,s87,s88,s89,s90,s91,s92,s93,s94,s95,s96,s97,s98,s99,s100,s101,s102,s103,s104,s105,s106,s107,s108,s109,s110,s111,s112,s113,s114,s115,s116,s117,s118,s119,s120,s121,s122,s123,s124,s125,s126,s127,s128,s129,s130,s131,s132,s133,s134,s135,s136,s137,s138,s139,s140,s141,s142,s143,s144,s145,s146,s147,s148,s149,s150,s151,s152,s153,s154,s155,s156,s157,s158,s159,s160,s161,s162,s163,s164,s165,s166,s167,s168,s169,s170,s171,s172,s173,s174,s175,s176,s177,s178,s179,s180,s181,s182,s183,s184,s185,s186],defers:=[] } V:=by
 have HQ:=hide hQ;clear hQ
 conv => arg 2;whnf
 refine wp_region_inv2 (fun Lb A W => ∃ (u0 u1 u2 u3 u4 u5 u6 : Bool) (n4 : Nat),Lb = #[u0,u1,u2,u3,u4,u5,u6] ∧ A = ({ tmps:=#[s0,s1,s2,s3,(bif u5 then .int .i64 (13) else s4),(bif u6 then .slice (some ⟨n4,0,none⟩) 2 2 else s5),.pointer (some ⟨gF,0,none⟩),s7,s8,s9,s10,s11,s12,s13,s14,s15,s16,s17,s18,s19,s20,s21,s22,s23,s24,s25,s26,s27,s28,s29,s30,s31,s32,s33,s34,s35,s36,s37,s38,s39,s40,s41,s42,s43,s44,s45,s46,s47,s48,s49,s50,s51,s52,s53,s54,s55,s56,s57,s58,s59,s60,s61,s62,s63,s64,s65,s66,s67,s68,s69,s70,s71,s72,s73,s74,s75,s76,s77,s78,s79,s80,s81,s82,s83,s84,s85,s86,s87,s88,s89,s90,s91,s92,s93,s94,s95,s96,s97,s98,s99,s100,s101,s102,s103,s104,s105,s106,s107,s108,s109,s110,s111,(bif u0 then .pointer (some ⟨gF,0,none⟩) else s112),(bif u1 then .string nm else s113),(bif u2 then .pointer (some ⟨gF,1,none⟩) else s114),(bif u3 then .string on else s115),(bif u4 then .slice (some ⟨n4,0,none⟩) 2 2 else s116),s117,s118,s119,s120,s121,s122,s123,s124,s125,s126,s127,s128,s129,s130,s131,s132,s133,s134,s135,s136,s137,s138,s139,s140,s141,s142,s143,s144,s145,s146,s147,s148,s149,s150,s151,s152,s153,s154,s155,s156,s157,s158,s159,s160,s161,s162,s163,s164,s165,s166,s167,s168,s169,s170,s171,s172,s173,s174,s175,s176,s177,s178,s179,s180,s181,s182,s183,s184,s185,s186],defers:=[] } : Act) ∧ Below V.heap.size V W ∧ (u4 = true → vb W n4 9 [.string nm,.string on] ∧ V.heap.size ≤ n4) ∧ (u6 = true → u0 = true ∧ u1 = true ∧ u2 = true ∧ u3 = true ∧ u4 = true ∧ u5 = true)) (by kernel_rfl) (by kernel_rfl) ?h0 ?hstep ?hend
 case h0 =>
  exact ⟨false,false,false,false,false,false,false,0,rfl,rfl,Below.drew (bfl _ _),zf,zf⟩
 case hstep =>
  intro Lb A W hI;obtain ⟨u0,u1,u2,u3,u4,hI⟩:=hI;obtain ⟨u5,u6,n4,hI⟩:=hI;obtain ⟨hLb,hI⟩:=hI;obtain ⟨hA,hI⟩:=hI;obtain ⟨kB,hI⟩:=hI;obtain ⟨k4,hI⟩:=hI;have kF:=hI;clear hI;subst hLb;subst hA;replace kB:=hide kB;replace k4:=hide k4;replace kF:=hide kF;refine ⟨?_,?_,?_,?_,?_,?_,?_,trivial⟩
  ·intro h0 hd K hK
   have z : u0 = false:=h0;have z6_ : u6 = false:=znb fun hu => z.symm.trans ((zu kF hu).1)
   subst z6_;subst z;clear h0 hd;rw [if_pos (by rfl)];go_simp;exact zu hK _ _ ⟨true,u1,u2,u3,u4,u5,false,n4,rfl,rfl,zu kB,zu k4,zf⟩
  ·intro h0 hd K hK
   have z : u1 = false:=h0;have z6_ : u6 = false:=znb fun hu => z.symm.trans ((zu kF hu).2.1)
   obtain ⟨rfl⟩ : u0 = true:=by simp [Region.binds] at hd;simp [hd]
   subst z6_;subst z;clear h0 hd;rw [if_pos (by rfl)];have c0:=keep1 (zu kB) (zu HNM);go_simp;exact zu hK _ _ ⟨true,true,u2,u3,u4,u5,false,n4,rfl,rfl,zu kB,zu k4,zf⟩
  ·intro h0 hd K hK
   have z : u2 = false:=h0;have z6_ : u6 = false:=znb fun hu => z.symm.trans ((zu kF hu).2.2.1)
   subst z6_;subst z;clear h0 hd;rw [if_pos (by rfl)];go_simp;exact zu hK _ _ ⟨u0,u1,true,u3,u4,u5,false,n4,rfl,rfl,zu kB,zu k4,zf⟩
  ·intro h0 hd K hK
   have z : u3 = false:=h0;have z6_ : u6 = false:=znb fun hu => z.symm.trans ((zu kF hu).2.2.2.1)
   obtain ⟨rfl⟩ : u2 = true:=by simp [Region.binds] at hd;simp [hd]
   subst z6_;subst z;clear h0 hd;rw [if_pos (by rfl)];have c0:=keep1 (zu kB) (zu HON);go_simp;exact zu hK _ _ ⟨u0,u1,true,true,u4,u5,false,n4,rfl,rfl,zu kB,zu k4,zf⟩
  ·intro h0 hd K hK
   have z : u4 = false:=h0;have z6_ : u6 = false:=znb fun hu => z.symm.trans ((zu kF hu).2.2.2.2.1)
   obtain ⟨rfl,rfl⟩ : u1 = true ∧ u3 = true:=by simp [Region.binds] at hd;simp [hd]
   subst z6_;subst z;clear h0 hd;rw [if_pos (by rfl)];go_simp;exact zu hK _ _ ⟨u0,true,u2,true,true,u5,false,W.heap.size,rfl,rfl,ba (zu kB) _,(fun _ => ⟨vb_new W 9 _ _ rfl,(zu kB).size⟩),zf⟩
  ·intro h0 hd K hK
   have z : u5 = false:=h0;have z6_ : u6 = false:=znb fun hu => z.symm.trans ((zu kF hu).2.2.2.2.2)
   subst z6_;subst z;clear h0 hd;rw [if_pos (by rfl)];go_simp;exact zu hK _ _ ⟨u0,u1,u2,u3,u4,true,false,n4,rfl,rfl,zu kB,zu k4,zf⟩
  ·intro h0 hd K hK
   have z : u6 = false:=h0
   have zd0 : u0 = true ∧ u1 = true ∧ u2 = true ∧ u3 = true ∧ u4 = true ∧ u5 = true:=by
    simp [Region.binds] at hd;simp [hd]
   have zd : u0 = true ∧ u1 = true ∧ u2 = true ∧ u3 = true ∧ u4 = true ∧ u5 = true:=⟨zd0.1,zd0.2.1,zd0.2.2.1,zd0.2.2.2.1,zd0.2.2.2.2.1,zd0.2.2.2.2.2⟩
   obtain ⟨rfl,rfl,rfl,rfl,rfl,rfl⟩:=zd;subst z;clear h0 hd;rw [if_pos (by rfl)];go_simp;exact zu hK _ _ ⟨true,true,true,true,true,true,true,n4,rfl,rfl,zu kB,zu k4,(fun _ => ⟨rfl,rfl,rfl,rfl,rfl,rfl⟩)⟩
 case hend =>
  intro Lb A W hI;obtain ⟨u0,u1,u2,u3,u4,hI⟩:=hI;obtain ⟨u5,u6,n4,hI⟩:=hI;obtain ⟨hLb,hI⟩:=hI;obtain ⟨hA,hI⟩:=hI;obtain ⟨kB,hI⟩:=hI;obtain ⟨k4,hI⟩:=hI;have kF:=hI;clear hI;subst hLb;subst hA;intro hL
  have hl : u0 = true ∧ u1 = true ∧ u2 = true ∧ u3 = true ∧ u4 = true ∧ u5 = true ∧ u6 = true:=by
   have h2:=congrArg Array.toList hL
   simpa [List.replicate] using h2
  obtain ⟨rfl,rfl,rfl,rfl,rfl,rfl,rfl⟩:=hl;exact zu HQ n4  W kB (k4 rfl).1 (k4 rfl).2
theorem do29 {s0 s1 s2 s3 s4 s5 s7 s8 s9 s10 s11 s12 s13 s14 s15 s16 s17 s18 s19 s20 s21 s22 s23 s24 s25 s26 s27 s28 s29 s30 s31 s32 s33 s34 s35 s36 s37 s38 s39 s40 s41 s42 s43 s44 s45 s46 s47 s48 s49 s50 s51 s52 s53 s54 s55 s56 s57 s58 s59 s60 s61 s62 s63 s64 s65 s66 s67 s68 s69 s70 s71 s72 s73 s74 s75 s76 s77 s78 s79 s80 s81 s82 s83 s84 s85 s86 s87 s88 s89 s90 s91 s92 s93 s94 s95 s96 s97 s98 s99 s100 s101 s102 s103 s104 s105 s106 s107 s108 s109 s110 s111 s112 s113 s114 s115 s116 s117 s118 s119 s120 s121 s122 s123 s124 s125 s126 s127 s128 s129 s130 s131 s132 s133 s134 s135 s136 s137 s138 s139 s140 s141 s142 s143 s144 s145 s146 s147 s148 s149 s150 s151 s152 s153 s154 s155 s156 s157 s158 s159 s160 s161 s162 s163 s164 s165 s166 s167 s168 s169 s170 s171 s172 s173 s174 s175 s176 s177 s178 s179 s180 s181 s182 s183 s184 s185 s186 : Value} {gF : Nat} {nm : ByteArray} {V : World} {K_ : Act → World → Prop}
  (HNM : Hid (V.cell? ⟨gF,0,none⟩ = some (.string nm)))
  (hQ : ∀ (n2 : Nat)  (W1 : World),Below V.heap.size V W1 → vb W1 n2 9 [.string nm] → V.heap.size ≤ n2 → K_ { tmps:=#[s0,s1,s2,s3,.int .i64 (5),.slice (some ⟨n2,0,none⟩) 1 1,.pointer (some ⟨gF,0,none⟩),s7,s8,s9,s10,s11,s12,s13,s14,s15,s16,s17,s18,s19,s20,s21,s22,s23,s24,s25,s26,s27,s28,s29,s30,s31,s32,s33,s34,s35,s36,s37,s38,s39,s40,s41,s42,s43,s44,s45,s46,s47,s48,s49,s50,s51,s52,s53,s54,s55,s56,s57,s58,s59,s60,s61,s62,s63,s64,s65,s66,s67,s68,s69,s70,s71,s72,s73,s74,s75,s76,s77,s78,s79,s80,s81,s82,s83,s84,s85,s86,s87,s88,s89,s90,s91,s92,s93,s94,s95,s96,s97,s98,s99,s100,s101,s102,s103,s104,s105,s106,s107,s108,s109,s110,s111,s112,s113,s114,s115,s116,s117,s118,s119,s120,s121,s122,s123,s124,s125,s126,s127,s128,s129,s130,s131,s132,s133,s134,s135,s136,s137,s138,s139,s140,s141,s142,.pointer (some ⟨gF,0,none⟩),.string nm,.slice (some ⟨n2,0,none⟩) 1 1,s146,s147,s148,s149,s150,s151,s152,s153,s154,s155,s156,s157,s158,s159,s160,s161,s162,s163,s164,s165,s166,s167,s168,s169,s170,s171,s172,s173,s174,s175,s176,s177,s178,s179,s180,s181,s182,s183,s184,s185,s186],defers:=[] } W1) :
  Go.Code.wp Tryz.prog (rg78 29) (Only K_) { tmps:=#[s0,s1,s2,s3,s4,s5,.pointer (some ⟨gF,0,none⟩),s7,s8,s9,s10,s11,s12,s13,s14,s15,s16,s17,s18,s19,s20,s21,s22,s23,s24,s25,s26,s27,s28,s29,s30,s31,s32,s33,s34,s35,s36,s37,s38,s39,s40,s41,s42,s43,s44,s45,s46,s47,s48,s49,s50,s51,s52,s53,s54,s55,s56,s57,s58,s59,s60,s61,s62,s63,s64,s65,s66,s67,s68,s69,s70,s71,s72,s73,s74,s75,s76,s77,s78,s79,s80,s81,s82,s83,s84,s85,s86,s87,s88,s89,s90,s91,s92,s93,s94,s95,s96,s97,s98,s99,s100,s101,s102,s103,s104,s105,s106,s107,s108,s109,s110,s111,s112,s113,s114,s115,s116,s117,s118,s119,s120,s121,s122,s123,s124,s125,s126,s127,s128,s129,s130,s131,s132,s133,s134,s135,s136,s137,s138,s139,s140,s141,s142,s143,s144,s145,s146,s147,s148,s149,s150,s151,s152,s153,s154,s155,s156,s157,s158,s159,s160,s161,s162,s163,s164,s165,s166,s167,s168,s169,s170,s171,s172,s173,s174,s175,s176,s177,s178,s179,s180,s181,s182,s183,s184,s185,s186],defers:=[] } V:=by
 have HQ:=hide hQ;clear hQ
 conv => arg 2;whnf
 refine wp_region_inv2 (fun Lb A W => ∃ (u0 u1 u2 u3 u4 : Bool) (n2 : Nat),Lb = #[u0,u1,u2,u3,u4] ∧ A = ({ tmps:=#[s0,s1,s2,s3,(bif u3 then .int .i64 (5) else s4),(bif u4 then .slice (some ⟨n2,0,none⟩) 1 1 else s5),.pointer (some ⟨gF,0,none⟩),s7,s8,s9,s10,s11,s12,s13,s14,s15,s16,s17,s18,s19,s20,s21,s22,s23,s24,s25,s26,s27,s28,s29,s30,s31,s32,s33,s34,s35,s36,s37,s38,s39,s40,s41,s42,s43,s44,s45,s46,s47,s48,s49,s50,s51,s52,s53,s54,s55,s56,s57,s58,s59,s60,s61,s62,s63,s64,s65,s66,s67,s68,s69,s70,s71,s72,s73,s74,s75,s76,s77,s78,s79,s80,s81,s82,s83,s84,s85,s86,s87,s88,s89,s90,s91,s92,s93,s94,s95,s96,s97,s98,s99,s100,s101,s102,s103,s104,s105,s106,s107,s108,s109,s110,s111,s112,s113,s114,s115,s116,s117,s118,s119,s120,s121,s122,s123,s124,s125,s126,s127,s128,s129,s130,s131,s132,s133,s134,s135,s136,s137,s138,s139,s140,s141,s142,(bif u0 then .pointer (some ⟨gF,0,none⟩) else s143),(bif u1 then .string nm else s144),(bif u2 then .slice (some ⟨n2,0,none⟩) 1 1 else s145),s146,s147,s148,s149,s150,s151,s152,s153,s154,s155,s156,s157,s158,s159,s160,s161,s162,s163,s164,s165,s166,s167,s168,s169,s170,s171,s172,s173,s174,s175,s176,s177,s178,s179,s180,s181,s182,s183,s184,s185,s186],defers:=[] } : Act) ∧ Below V.heap.size V W ∧ (u2 = true → vb W n2 9 [.string nm] ∧ V.heap.size ≤ n2) ∧ (u4 = true → u0 = true ∧ u1 = true ∧ u2 = true ∧ u3 = true)) (by kernel_rfl) (by kernel_rfl) ?h0 ?hstep ?hend
 case h0 =>
  exact ⟨false,false,false,false,false,0,rfl,rfl,Below.drew (bfl _ _),zf,zf⟩
 case hstep =>
  intro Lb A W hI;obtain ⟨u0,u1,u2,u3,u4,hI⟩:=hI;obtain ⟨n2,hI⟩:=hI;obtain ⟨hLb,hI⟩:=hI;obtain ⟨hA,hI⟩:=hI;obtain ⟨kB,hI⟩:=hI;obtain ⟨k2,hI⟩:=hI;have kF:=hI;clear hI;subst hLb;subst hA;replace kB:=hide kB;replace k2:=hide k2;replace kF:=hide kF;refine ⟨?_,?_,?_,?_,?_,trivial⟩
  ·intro h0 hd K hK
   have z : u0 = false:=h0;have z4_ : u4 = false:=znb fun hu => z.symm.trans ((zu kF hu).1)
   subst z4_;subst z;clear h0 hd;rw [if_pos (by rfl)];go_simp;exact zu hK _ _ ⟨true,u1,u2,u3,false,n2,rfl,rfl,zu kB,zu k2,zf⟩
  ·intro h0 hd K hK
   have z : u1 = false:=h0;have z4_ : u4 = false:=znb fun hu => z.symm.trans ((zu kF hu).2.1)
   obtain ⟨rfl⟩ : u0 = true:=by simp [Region.binds] at hd;simp [hd]
   subst z4_;subst z;clear h0 hd;rw [if_pos (by rfl)];have c0:=keep1 (zu kB) (zu HNM);go_simp;exact zu hK _ _ ⟨true,true,u2,u3,false,n2,rfl,rfl,zu kB,zu k2,zf⟩
  ·intro h0 hd K hK
   have z : u2 = false:=h0;have z4_ : u4 = false:=znb fun hu => z.symm.trans ((zu kF hu).2.2.1)
   obtain ⟨rfl⟩ : u1 = true:=by simp [Region.binds] at hd;simp [hd]
   subst z4_;subst z;clear h0 hd;rw [if_pos (by rfl)];go_simp;exact zu hK _ _ ⟨u0,true,true,u3,false,W.heap.size,rfl,rfl,ba (zu kB) _,(fun _ => ⟨vb_new W 9 _ _ rfl,(zu kB).size⟩),zf⟩
  ·intro h0 hd K hK
   have z : u3 = false:=h0;have z4_ : u4 = false:=znb fun hu => z.symm.trans ((zu kF hu).2.2.2)
   subst z4_;subst z;clear h0 hd;rw [if_pos (by rfl)];go_simp;exact zu hK _ _ ⟨u0,u1,u2,true,false,n2,rfl,rfl,zu kB,zu k2,zf⟩
  ·intro h0 hd K hK
   have z : u4 = false:=h0
   have zd0 : u0 = true ∧ u1 = true ∧ u2 = true ∧ u3 = true:=by
    simp [Region.binds] at hd;simp [hd]
   have zd : u0 = true ∧ u1 = true ∧ u2 = true ∧ u3 = true:=⟨zd0.1,zd0.2.1,zd0.2.2.1,zd0.2.2.2⟩
   obtain ⟨rfl,rfl,rfl,rfl⟩:=zd;subst z;clear h0 hd;rw [if_pos (by rfl)];go_simp;exact zu hK _ _ ⟨true,true,true,true,true,n2,rfl,rfl,zu kB,zu k2,(fun _ => ⟨rfl,rfl,rfl,rfl⟩)⟩
 case hend =>
  intro Lb A W hI;obtain ⟨u0,u1,u2,u3,u4,hI⟩:=hI;obtain ⟨n2,hI⟩:=hI;obtain ⟨hLb,hI⟩:=hI;obtain ⟨hA,hI⟩:=hI;obtain ⟨kB,hI⟩:=hI;obtain ⟨k2,hI⟩:=hI;have kF:=hI;clear hI;subst hLb;subst hA;intro hL
  have hl : u0 = true ∧ u1 = true ∧ u2 = true ∧ u3 = true ∧ u4 = true:=by
   have h2:=congrArg Array.toList hL
   simpa [List.replicate] using h2
  obtain ⟨rfl,rfl,rfl,rfl,rfl⟩:=hl;exact zu HQ n2  W kB (k2 rfl).1 (k2 rfl).2
end Go.Proofs.YtkiplmabjeadgaaGreat
