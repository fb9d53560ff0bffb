/- The program's pieces of the question whether a feature is right. -/
import Derived.Test.YtkiplmabjeadgaaGreatScPR
import Derived.Test.YtkiplmabjeadgaaGreatRunesR
import Derived.Test.YtkiplmabjeadgaaGreatFtMathR
namespace Go.Proofs.YtkiplmabjeadgaaGreat
set_option maxRecDepth 100000
set_option maxHeartbeats 16000000
open Go.ChangeShapes Go.WideShapes Go.ChangeAt Go.RowKit
set_option linter.unusedVariables false
set_option linter.unusedSimpArgs false
noncomputable def rg114 (id : Nat) : Go.Code:=match Tryz.f112.body with | some c => (regOfZ id c).getD .skip | none => .skip
theorem sq22 {s1 s2 s3 s9 s10 s11 s12 s13 s14 s15 s16 s17 s18 s19 s20 s21 s22 s23 s24 s25 s26 s27 s28 s29 s30 s31 s32 s33 s34 s35 s36 s37 s38 s39 s40 s41 s42 s43 s44 s45 s46 s47 s48 s49 s50 s51 s52 s53 s54 s55 s56 s57 s58 s59 s60 s61 s62 s63 s64 s65 s66 s67 s68 s69 s70 s71 s72 s73 s74 s75 s76 s77 s78 s79 s80 s81 s82 s83 s84 s85 s86 s87 s88 s89 s90 s91 s92 s93 s94 s95 s96 s97 s98 s99 s100 s101 s102 s103 s104 s105 s106 s107 s108 : Value} {g gb cb z y x kk sd yk : Nat} {f0 f1 f2 f3 f4 f5 : Int} {V : World} {K_ : Act → World → Prop}
  (HG3 : Hid (V.cell? ⟨g,3,none⟩ = some (.slice (some ⟨gb,0,none⟩) 13824 cb))) (HGB : Hid (V.cell? ⟨gb,kk,none⟩ = some (.int .i64 (yk : Int))))
  (HX5 : Hid (kk < 13824))
  (HF12 : Hid (∀ Xw,Below V.heap.size V Xw → Calls Tryz.prog 145 #[.int .i64 (x : Int),.int .i64 (y : Int),.int .i64 (z : Int),.int .i64 (sd : Int)] Xw fun e w' => e = .returned (.agg #[.int .i64 (f0),.int .i64 (f1),.int .i64 (f2),.int .i64 (f3),.int .i64 (f4),.int .i64 (f5)]) ∧ Below Xw.heap.size Xw w'))
  (hQ : ∀ (n14 : Nat)  (W1 : World),Below V.heap.size V W1 → vb W1 n14 183 [.int .i64 (yk : Int),.int .i64 (sd : Int),.int .i64 (f0),.int .i64 (f1),.int .i64 (f2),.int .i64 (f3),.int .i64 (f4),.int .i64 (f5)] → V.heap.size ≤ n14 → K_ { tmps:=#[.pointer (some ⟨g,0,none⟩),s1,s2,s3,.int .i64 (z : Int),.int .i64 (y : Int),.int .i64 (x : Int),.int .i64 (kk : Int),.int .i64 (sd : Int),s9,s10,s11,s12,s13,.pointer (some ⟨n14,0,none⟩),s15,s16,s17,s18,s19,s20,s21,s22,s23,s24,s25,s26,s27,s28,s29,s30,s31,s32,s33,s34,s35,s36,s37,s38,s39,s40,s41,s42,s43,s44,s45,s46,s47,s48,s49,s50,s51,s52,s53,s54,s55,s56,s57,s58,s59,s60,s61,s62,s63,s64,s65,s66,s67,s68,s69,s70,s71,s72,s73,s74,s75,s76,s77,s78,s79,s80,s81,s82,s83,.pointer (some ⟨g,0,none⟩),.pointer (some ⟨g,0,none⟩),.pointer (some ⟨g,3,none⟩),.slice (some ⟨gb,0,none⟩) 13824 cb,.int .i64 (kk : Int),.pointer (some ⟨gb,kk,none⟩),.int .i64 (yk : Int),.int .i64 (sd : Int),.int .i64 (x : Int),.int .i64 (y : Int),.int .i64 (z : Int),.int .i64 (sd : Int),.agg #[.int .i64 (f0),.int .i64 (f1),.int .i64 (f2),.int .i64 (f3),.int .i64 (f4),.int .i64 (f5)],.agg #[.int .i64 (yk : Int),.int .i64 (sd : Int),.int .i64 (f0),.int .i64 (f1),.int .i64 (f2),.int .i64 (f3),.int .i64 (f4),.int .i64 (f5)],s98,s99,s100,s101,s102,s103,s104,s105,s106,s107,s108],defers:=[] } W1) :
  Go.Code.wp Tryz.prog (rg114 22) (Only K_) { tmps:=#[.pointer (some ⟨g,0,none⟩),s1,s2,s3,.int .i64 (z : Int),.int .i64 (y : Int),.int .i64 (x : Int),.int .i64 (kk : Int),.int .i64 (sd : Int),s9,s10,s11,s12,s13,s14,s15,s16,s17,s18,s19,s20,s21,s22,s23,s24,s25,s26,s27,s28,s29,s30,s31,s32,s33,s34,s35,s36,s37,s38,s39,s40,s41,s42,s43,s44,s45,s46,s47,s48,s49,s50,s51,s52,s53,s54,s55,s56,s57,s58,s59,s60,s61,s62,s63,s64,s65,s66,s67,s68,s69,s70,s71,s72,s73,s74,s75,s76,s77,s78,s79,s80,s81,s82,s83,s84,s85,s86,s87,s88,s89,s90,s91,s92,s93,s94,s95,s96,s97,s98,s99,s100,s101,s102,s103,s104,s105,s106,s107,s108],defers:=[] } V:=by
 have HQ:=hide hQ;clear hQ
 conv => arg 2;whnf
 refine wp_region_inv2 (fun Lb A W => ∃ (u0 u1 u2 u3 u4 u5 u6 u7 u8 u9 u10 u11 u12 u13 u14 u15 : Bool) (n14 : Nat),Lb = #[u0,u1,u2,u3,u4,u5,u6,u7,u8,u9,u10,u11,u12,u13,u14,u15] ∧ A = ({ tmps:=#[.pointer (some ⟨g,0,none⟩),s1,s2,s3,.int .i64 (z : Int),.int .i64 (y : Int),.int .i64 (x : Int),.int .i64 (kk : Int),.int .i64 (sd : Int),s9,s10,s11,s12,s13,(bif u14 then .pointer (some ⟨n14,0,none⟩) else s14),s15,s16,s17,s18,s19,s20,s21,s22,s23,s24,s25,s26,s27,s28,s29,s30,s31,s32,s33,s34,s35,s36,s37,s38,s39,s40,s41,s42,s43,s44,s45,s46,s47,s48,s49,s50,s51,s52,s53,s54,s55,s56,s57,s58,s59,s60,s61,s62,s63,s64,s65,s66,s67,s68,s69,s70,s71,s72,s73,s74,s75,s76,s77,s78,s79,s80,s81,s82,s83,(bif u0 then .pointer (some ⟨g,0,none⟩) else s84),(bif u1 then .pointer (some ⟨g,0,none⟩) else s85),(bif u2 then .pointer (some ⟨g,3,none⟩) else s86),(bif u3 then .slice (some ⟨gb,0,none⟩) 13824 cb else s87),(bif u4 then .int .i64 (kk : Int) else s88),(bif u5 then .pointer (some ⟨gb,kk,none⟩) else s89),(bif u6 then .int .i64 (yk : Int) else s90),(bif u7 then .int .i64 (sd : Int) else s91),(bif u8 then .int .i64 (x : Int) else s92),(bif u9 then .int .i64 (y : Int) else s93),(bif u10 then .int .i64 (z : Int) else s94),(bif u11 then .int .i64 (sd : Int) else s95),(bif u12 then .agg #[.int .i64 (f0),.int .i64 (f1),.int .i64 (f2),.int .i64 (f3),.int .i64 (f4),.int .i64 (f5)] else s96),(bif u13 then .agg #[.int .i64 (yk : Int),.int .i64 (sd : Int),.int .i64 (f0),.int .i64 (f1),.int .i64 (f2),.int .i64 (f3),.int .i64 (f4),.int .i64 (f5)] else s97),s98,s99,s100,s101,s102,s103,s104,s105,s106,s107,s108],defers:=[] } : Act) ∧ Below V.heap.size V W ∧ (u14 = true → vb W n14 183 (bif u15 then [.int .i64 (yk : Int),.int .i64 (sd : Int),.int .i64 (f0),.int .i64 (f1),.int .i64 (f2),.int .i64 (f3),.int .i64 (f4),.int .i64 (f5)] else [.int .i64 (0),.int .i64 (0),.int .i64 (0),.int .i64 (0),.int .i64 (0),.int .i64 (0),.int .i64 (0),.int .i64 (0)]) ∧ V.heap.size ≤ n14) ∧ (u15 = true → u0 = true ∧ u1 = true ∧ u2 = true ∧ u3 = true ∧ u4 = true ∧ u5 = true ∧ u6 = true ∧ u7 = true ∧ u8 = true ∧ u9 = true ∧ u10 = true ∧ u11 = true ∧ u12 = true ∧ u13 = true ∧ u14 = true)) (by kernel_rfl) (by kernel_rfl) ?h0 ?hstep ?hend
 case h0 =>
  exact ⟨false,false,false,false,false,false,false,false,false,false,false,false,false,false,false,false,0,rfl,rfl,Below.drew (bfl _ _),zf,zf⟩
 case hstep =>
  intro Lb A W hI;obtain ⟨u0,u1,u2,u3,u4,hI⟩:=hI;obtain ⟨u5,u6,u7,u8,u9,hI⟩:=hI;obtain ⟨u10,u11,u12,u13,u14,hI⟩:=hI;obtain ⟨u15,n14,hI⟩:=hI;obtain ⟨hLb,hI⟩:=hI;obtain ⟨hA,hI⟩:=hI;obtain ⟨kB,hI⟩:=hI;obtain ⟨k14,hI⟩:=hI;have kF:=hI;clear hI;subst hLb;subst hA;replace kB:=hide kB;replace k14:=hide k14;replace kF:=hide kF;refine ⟨?_,?_,?_,?_,?_,?_,?_,?_,?_,?_,?_,?_,?_,?_,?_,?_,trivial⟩
  ·intro h0 hd K hK
   have z : u0 = false:=h0;have z15_ : u15 = false:=znb fun hu => z.symm.trans ((zu kF hu).1)
   subst z15_;subst z;clear h0 hd;rw [if_pos (by rfl)];go_simp;exact zu hK _ _ ⟨true,u1,u2,u3,u4,u5,u6,u7,u8,u9,u10,u11,u12,u13,u14,false,n14,rfl,rfl,zu kB,zu k14,zf⟩
  ·intro h0 hd K hK
   have z : u1 = false:=h0;have z15_ : u15 = false:=znb fun hu => z.symm.trans ((zu kF hu).2.1)
   obtain ⟨rfl⟩ : u0 = true:=by simp [Region.binds] at hd;simp [hd]
   subst z15_;subst z;clear h0 hd;rw [if_pos (by rfl)];go_simp;exact zu hK _ _ ⟨true,true,u2,u3,u4,u5,u6,u7,u8,u9,u10,u11,u12,u13,u14,false,n14,rfl,rfl,zu kB,zu k14,zf⟩
  ·intro h0 hd K hK
   have z : u2 = false:=h0;have z15_ : u15 = false:=znb fun hu => z.symm.trans ((zu kF hu).2.2.1)
   obtain ⟨rfl⟩ : u1 = true:=by simp [Region.binds] at hd;simp [hd]
   subst z15_;subst z;clear h0 hd;rw [if_pos (by rfl)];go_simp;exact zu hK _ _ ⟨u0,true,true,u3,u4,u5,u6,u7,u8,u9,u10,u11,u12,u13,u14,false,n14,rfl,rfl,zu kB,zu k14,zf⟩
  ·intro h0 hd K hK
   have z : u3 = false:=h0;have z15_ : u15 = false:=znb fun hu => z.symm.trans ((zu kF hu).2.2.2.1)
   obtain ⟨rfl⟩ : u2 = true:=by simp [Region.binds] at hd;simp [hd]
   subst z15_;subst z;clear h0 hd;rw [if_pos (by rfl)];have c0:=keep1 (zu kB) (zu HG3);go_simp;exact zu hK _ _ ⟨u0,u1,true,true,u4,u5,u6,u7,u8,u9,u10,u11,u12,u13,u14,false,n14,rfl,rfl,zu kB,zu k14,zf⟩
  ·intro h0 hd K hK
   have z : u4 = false:=h0;have z15_ : u15 = false:=znb fun hu => z.symm.trans ((zu kF hu).2.2.2.2.1)
   subst z15_;subst z;clear h0 hd;rw [if_pos (by rfl)];go_simp;exact zu hK _ _ ⟨u0,u1,u2,u3,true,u5,u6,u7,u8,u9,u10,u11,u12,u13,u14,false,n14,rfl,rfl,zu kB,zu k14,zf⟩
  ·intro h0 hd K hK
   have z : u5 = false:=h0;have z15_ : u15 = false:=znb fun hu => z.symm.trans ((zu kF hu).2.2.2.2.2.1)
   obtain ⟨rfl,rfl⟩ : u3 = true ∧ u4 = true:=by simp [Region.binds] at hd;simp [hd]
   subst z15_;subst z;clear h0 hd;rw [if_pos (by rfl)];have q1 : kk < 13824:=zu HX5;have q2 : (kk : Int) < (13824 : Int):=by omega
   go_simp;exact zu hK _ _ ⟨u0,u1,u2,true,true,true,u6,u7,u8,u9,u10,u11,u12,u13,u14,false,n14,rfl,rfl,zu kB,zu k14,zf⟩
  ·intro h0 hd K hK
   have z : u6 = false:=h0;have z15_ : u15 = false:=znb fun hu => z.symm.trans ((zu kF hu).2.2.2.2.2.2.1)
   obtain ⟨rfl⟩ : u5 = true:=by simp [Region.binds] at hd;simp [hd]
   subst z15_;subst z;clear h0 hd;rw [if_pos (by rfl)];have c0:=keep1 (zu kB) (zu HGB);go_simp;exact zu hK _ _ ⟨u0,u1,u2,u3,u4,true,true,u7,u8,u9,u10,u11,u12,u13,u14,false,n14,rfl,rfl,zu kB,zu k14,zf⟩
  ·intro h0 hd K hK
   have z : u7 = false:=h0;have z15_ : u15 = false:=znb fun hu => z.symm.trans ((zu kF hu).2.2.2.2.2.2.2.1)
   subst z15_;subst z;clear h0 hd;rw [if_pos (by rfl)];go_simp;exact zu hK _ _ ⟨u0,u1,u2,u3,u4,u5,u6,true,u8,u9,u10,u11,u12,u13,u14,false,n14,rfl,rfl,zu kB,zu k14,zf⟩
  ·intro h0 hd K hK
   have z : u8 = false:=h0;have z15_ : u15 = false:=znb fun hu => z.symm.trans ((zu kF hu).2.2.2.2.2.2.2.2.1)
   subst z15_;subst z;clear h0 hd;rw [if_pos (by rfl)];go_simp;exact zu hK _ _ ⟨u0,u1,u2,u3,u4,u5,u6,u7,true,u9,u10,u11,u12,u13,u14,false,n14,rfl,rfl,zu kB,zu k14,zf⟩
  ·intro h0 hd K hK
   have z : u9 = false:=h0;have z15_ : u15 = false:=znb fun hu => z.symm.trans ((zu kF hu).2.2.2.2.2.2.2.2.2.1)
   subst z15_;subst z;clear h0 hd;rw [if_pos (by rfl)];go_simp;exact zu hK _ _ ⟨u0,u1,u2,u3,u4,u5,u6,u7,u8,true,u10,u11,u12,u13,u14,false,n14,rfl,rfl,zu kB,zu k14,zf⟩
  ·intro h0 hd K hK
   have z : u10 = false:=h0;have z15_ : u15 = false:=znb fun hu => z.symm.trans ((zu kF hu).2.2.2.2.2.2.2.2.2.2.1)
   subst z15_;subst z;clear h0 hd;rw [if_pos (by rfl)];go_simp;exact zu hK _ _ ⟨u0,u1,u2,u3,u4,u5,u6,u7,u8,u9,true,u11,u12,u13,u14,false,n14,rfl,rfl,zu kB,zu k14,zf⟩
  ·intro h0 hd K hK
   have z : u11 = false:=h0;have z15_ : u15 = false:=znb fun hu => z.symm.trans ((zu kF hu).2.2.2.2.2.2.2.2.2.2.2.1)
   subst z15_;subst z;clear h0 hd;rw [if_pos (by rfl)];go_simp;exact zu hK _ _ ⟨u0,u1,u2,u3,u4,u5,u6,u7,u8,u9,u10,true,u12,u13,u14,false,n14,rfl,rfl,zu kB,zu k14,zf⟩
  ·intro h0 hd K hK
   have z : u12 = false:=h0;have z15_ : u15 = false:=znb fun hu => z.symm.trans ((zu kF hu).2.2.2.2.2.2.2.2.2.2.2.2.1)
   obtain ⟨rfl,rfl,rfl,rfl⟩ : u8 = true ∧ u9 = true ∧ u10 = true ∧ u11 = true:=by simp [Region.binds] at hd;simp [hd]
   subst z15_;subst z;clear h0 hd;rw [if_pos (by rfl)];go_simp;refine (zu HF12 W (zu kB)).mono ?_;rintro e w8 ⟨rfl,hb8⟩;exact zu hK _ _ ⟨u0,u1,u2,u3,u4,u5,u6,u7,true,true,true,true,true,u13,u14,false,n14,rfl,rfl,bc (zu kB) hb8,(fun h => ⟨(zu k14 h).1.bel hb8,(zu k14 h).2⟩),zf⟩
  ·intro h0 hd K hK
   have z : u13 = false:=h0;have z15_ : u15 = false:=znb fun hu => z.symm.trans ((zu kF hu).2.2.2.2.2.2.2.2.2.2.2.2.2.1)
   obtain ⟨rfl,rfl,rfl⟩ : u6 = true ∧ u7 = true ∧ u12 = true:=by simp [Region.binds] at hd;simp [hd]
   subst z15_;subst z;clear h0 hd;rw [if_pos (by rfl)];go_simp;exact zu hK _ _ ⟨u0,u1,u2,u3,u4,u5,true,true,u8,u9,u10,u11,true,true,u14,false,n14,rfl,rfl,zu kB,zu k14,zf⟩
  ·intro h0 hd K hK
   have z : u14 = false:=h0;have z15_ : u15 = false:=znb fun hu => z.symm.trans ((zu kF hu).2.2.2.2.2.2.2.2.2.2.2.2.2.2)
   subst z15_;subst z;clear h0 hd;rw [if_pos (by rfl)];go_simp;exact zu hK _ _ ⟨u0,u1,u2,u3,u4,u5,u6,u7,u8,u9,u10,u11,u12,u13,true,false,W.heap.size,rfl,rfl,ba (zu kB) _,(fun _ => ⟨vb_new W 183 _ _ rfl,(zu kB).size⟩),zf⟩
  ·intro h0 hd K hK
   have z : u15 = false:=h0
   have zd0 : u0 = true ∧ u1 = true ∧ u2 = true ∧ u3 = true ∧ u4 = true ∧ u5 = true ∧ u6 = true ∧ u7 = true ∧ u8 = true ∧ u9 = true ∧ u10 = true ∧ u11 = true ∧ u12 = true ∧ u13 = true ∧ u14 = true:=by
    simp [Region.binds] at hd;simp [hd]
   have zd : u0 = true ∧ u1 = true ∧ u2 = true ∧ u3 = true ∧ u4 = true ∧ u5 = true ∧ u6 = true ∧ u7 = true ∧ u8 = true ∧ u9 = true ∧ u10 = true ∧ u11 = true ∧ u12 = true ∧ u13 = true ∧ u14 = true:=⟨zd0.1,zd0.2.1,zd0.2.2.1,zd0.2.2.2.1,zd0.2.2.2.2.1,zd0.2.2.2.2.2.1,zd0.2.2.2.2.2.2.1,zd0.2.2.2.2.2.2.2.1,zd0.2.2.2.2.2.2.2.2.1,zd0.2.2.2.2.2.2.2.2.2.1,zd0.2.2.2.2.2.2.2.2.2.2.1,zd0.2.2.2.2.2.2.2.2.2.2.2.1,zd0.2.2.2.2.2.2.2.2.2.2.2.2.1,zd0.2.2.2.2.2.2.2.2.2.2.2.2.2.1,zd0.2.2.2.2.2.2.2.2.2.2.2.2.2.2⟩
   obtain ⟨rfl,rfl,rfl,rfl,rfl,rfl,rfl,rfl,rfl,rfl,rfl,rfl,rfl,rfl,rfl⟩:=zd;subst z;clear h0 hd;rw [if_pos (by rfl)];have v1:=(zu k14 rfl).1;have g9:=(zu k14 rfl).2;have fz:=v1.frozen;have q0:=v1.cell (m:=0) rfl;have q1:=v1.cell (m:=1) rfl;have q2:=v1.cell (m:=2) rfl;have q3:=v1.cell (m:=3) rfl;have q4:=v1.cell (m:=4) rfl;have q5:=v1.cell (m:=5) rfl;have q6:=v1.cell (m:=6) rfl;have q7:=v1.cell (m:=7) rfl;have HV1:=hide v1;clear v1;go_simp
   exact zu hK _ _ ⟨true,true,true,true,true,true,true,true,true,true,true,true,true,true,true,true,n14,rfl,rfl,(((((((((((((((((zu kB)).setCell (p:=⟨n14,0,none⟩) g9 _)).setCell (p:=⟨n14,1,none⟩) g9 _)).setCell (p:=⟨n14,2,none⟩) g9 _)).setCell (p:=⟨n14,3,none⟩) g9 _)).setCell (p:=⟨n14,4,none⟩) g9 _)).setCell (p:=⟨n14,5,none⟩) g9 _)).setCell (p:=⟨n14,6,none⟩) g9 _)).setCell (p:=⟨n14,7,none⟩) g9 _),(fun _ => ⟨(((((((((zu HV1).set 0 _).set 1 _).set 2 _).set 3 _).set 4 _).set 5 _).set 6 _).set 7 _),g9⟩),(fun _ => ⟨rfl,rfl,rfl,rfl,rfl,rfl,rfl,rfl,rfl,rfl,rfl,rfl,rfl,rfl,rfl⟩)⟩
 case hend =>
  intro Lb A W hI;obtain ⟨u0,u1,u2,u3,u4,hI⟩:=hI;obtain ⟨u5,u6,u7,u8,u9,hI⟩:=hI;obtain ⟨u10,u11,u12,u13,u14,hI⟩:=hI;obtain ⟨u15,n14,hI⟩:=hI;obtain ⟨hLb,hI⟩:=hI;obtain ⟨hA,hI⟩:=hI;obtain ⟨kB,hI⟩:=hI;obtain ⟨k14,hI⟩:=hI;have kF:=hI;clear hI;subst hLb;subst hA;intro hL
  have hl : u0 = true ∧ u1 = true ∧ u2 = true ∧ u3 = true ∧ u4 = true ∧ u5 = true ∧ u6 = true ∧ u7 = true ∧ u8 = true ∧ u9 = true ∧ u10 = true ∧ u11 = true ∧ u12 = true ∧ u13 = true ∧ u14 = true ∧ u15 = true:=by
   have h2:=congrArg Array.toList hL
   simpa [List.replicate] using h2
  obtain ⟨rfl,rfl,rfl,rfl,rfl,rfl,rfl,rfl,rfl,rfl,rfl,rfl,rfl,rfl,rfl,rfl⟩:=hl;exact zu HQ n14  W kB (k14 rfl).1 (k14 rfl).2
theorem inM_any (x : Int) (w : World) : Calls Tryz.prog 144 #[.int .i64 x] w fun e w' => e = .returned (.bool (inG x)) ∧ w' = w:=by
 unfold inG;go_enter Tryz.func144,Tryz.ntmps144;go_wp2
 all_goals
  go_ret;refine ⟨ret_bool ?_,rfl⟩
  first | (simp [*];done) | (simp;omega)
theorem looseM_any (x0 y0 z0 x1 y1 z1 : Int) (w : World) : Calls Tryz.prog 143 #[.agg #[.int .i64 x0,.int .i64 y0,.int .i64 z0,.int .i64 x1,.int .i64 y1,.int .i64 z1]] w fun e w' => e = .returned (.bool (loose x0 y0 z0 x1 y1 z1)) ∧ Below w.heap.size w w':=by
 have G0:=hide (fun W => inM_any x0 W);have G1:=hide (fun W => inM_any y0 W);have G2:=hide (fun W => inM_any z0 W);have G3:=hide (fun W => inM_any x1 W);have G4:=hide (fun W => inM_any y1 W);have G5:=hide (fun W => inM_any z1 W);unfold loose;generalize inG x0 = a0 at *;generalize inG y0 = a1 at *;generalize inG z0 = a2 at *;generalize inG x1 = a3 at *;generalize inG y1 = a4 at *;generalize inG z1 = a5 at *;go_enter Tryz.func143,Tryz.ntmps143;go_wp2_with fail;refine (zu G0 _).mono ?_;rintro e W1 ⟨rfl,rfl⟩
 cases a0
 ·go_wp2_with fail
  go_ret;exact ⟨ret_bool (by simp),ba (bfl _ _) _⟩
 go_wp2_with fail;refine (zu G1 _).mono ?_;rintro e W1 ⟨rfl,rfl⟩
 cases a1
 ·go_wp2_with fail
  go_ret;exact ⟨ret_bool (by simp),ba (bfl _ _) _⟩
 go_wp2_with fail;refine (zu G2 _).mono ?_;rintro e W1 ⟨rfl,rfl⟩
 cases a2
 ·go_wp2_with fail
  go_ret;exact ⟨ret_bool (by simp),ba (bfl _ _) _⟩
 go_wp2_with fail;refine (zu G3 _).mono ?_;rintro e W1 ⟨rfl,rfl⟩
 cases a3
 ·go_wp2_with fail
  go_ret;exact ⟨ret_bool (by simp),ba (bfl _ _) _⟩
 go_wp2_with fail;refine (zu G4 _).mono ?_;rintro e W1 ⟨rfl,rfl⟩
 cases a4
 ·go_wp2_with fail
  go_ret;exact ⟨ret_bool (by simp),ba (bfl _ _) _⟩
 go_wp2_with fail;refine (zu G5 _).mono ?_;rintro e W1 ⟨rfl,rfl⟩
 cases a5
 ·go_wp2_with fail
  go_ret;exact ⟨ret_bool (by simp),ba (bfl _ _) _⟩
 go_wp2_with fail
 all_goals
  go_ret;refine ⟨ret_bool ?_,ba (bfl _ _) _⟩
  first | (simp [*];done) | (simp;omega)
theorem vb15 {w : World} {g t : Nat} {f : Ft} (h : vb w g t (ftc f)) : w.cell? ⟨g,0,none⟩ = some (.string f.nm) ∧ w.cell? ⟨g,1,none⟩ = some (.string f.on) ∧ w.cell? ⟨g,2,none⟩ = some (.string f.ov) ∧ w.cell? ⟨g,3,none⟩ = some (.int .i64 f.kd) ∧ w.cell? ⟨g,4,none⟩ = some (.int .i64 f.sd) ∧ w.cell? ⟨g,5,none⟩ = some (.int .i64 f.x0) ∧ w.cell? ⟨g,6,none⟩ = some (.int .i64 f.y0) ∧ w.cell? ⟨g,7,none⟩ = some (.int .i64 f.z0) ∧ w.cell? ⟨g,8,none⟩ = some (.int .i64 f.x1) ∧ w.cell? ⟨g,9,none⟩ = some (.int .i64 f.y1) ∧ w.cell? ⟨g,10,none⟩ = some (.int .i64 f.z1) ∧ w.cell? ⟨g,11,none⟩ = some (.int .i64 f.ct) ∧ w.cell? ⟨g,12,none⟩ = some (.int .i64 f.dx) ∧ w.cell? ⟨g,13,none⟩ = some (.int .i64 f.dy) ∧ w.cell? ⟨g,14,none⟩ = some (.int .i64 f.dz) :=
  ⟨h.cell rfl,h.cell rfl,h.cell rfl,h.cell rfl,h.cell rfl,h.cell rfl,h.cell rfl,h.cell rfl,h.cell rfl,h.cell rfl,h.cell rfl,h.cell rfl,h.cell rfl,h.cell rfl,h.cell rfl⟩
def btw (x a b : Int) : Bool:=decide (a ≤ x) && decide (x ≤ b)
theorem btw_any (x a b : Int) (w : World) : Calls Tryz.prog 58 #[.int .i64 x,.int .i64 a,.int .i64 b] w fun e w' => e = .returned (.bool (btw x a b)) ∧ w' = w:=by
 unfold btw;go_enter Tryz.func58,Tryz.ntmps58;go_wp2
 all_goals
  go_ret;refine ⟨ret_bool ?_,rfl⟩
  first | (simp [*];done) | (simp;omega)
def axOk (f l a b : Int) : Bool:=decide (f ≤ a ∧ a < b ∧ b ≤ l)
def fitB (f l x0 y0 z0 x1 y1 z1 : Int) : Bool:=axOk f l x0 x1 && axOk f l y0 y1 && axOk f l z0 z1
theorem fit_loose (x0 y0 z0 x1 y1 z1 : Int) : fitB (-24) 24 x0 y0 z0 x1 y1 z1 = loose x0 y0 z0 x1 y1 z1:=by
 unfold fitB loose axOk inG;rw [Bool.eq_iff_iff];simp;omega
theorem fits_any (f l x0 y0 z0 x1 y1 z1 : Int) (w : World) : Calls Tryz.prog 172 #[.agg #[.int .i64 x0,.int .i64 y0,.int .i64 z0,.int .i64 x1,.int .i64 y1,.int .i64 z1],.int .i64 f,.int .i64 l] w fun e w' => e = .returned (.bool (fitB f l x0 y0 z0 x1 y1 z1)) ∧ Below w.heap.size w w':=by
 go_enter Tryz.func172,Tryz.ntmps172;go_wp2;have HV:=hide (vb_new (w.alloc (.cells #[.int .i64 x0,.int .i64 y0,.int .i64 z0,.int .i64 x1,.int .i64 y1,.int .i64 z1] 41)) 273 [.int .i64 x0,.int .i64 x1,.int .i64 y0,.int .i64 y1,.int .i64 z0,.int .i64 z1] _ rfl);have HB:=hide (ba (ba (bfl w.heap.size w) (.cells #[.int .i64 x0,.int .i64 y0,.int .i64 z0,.int .i64 x1,.int .i64 y1,.int .i64 z1] 41)) (.cells #[.int .i64 x0,.int .i64 x1,.int .i64 y0,.int .i64 y1,.int .i64 z0,.int .i64 z1] 273));simp only [World.size_alloc] at HV
 go_loopw [26] (fun s W => ∃ i : Nat,s = .int .i64 (i : Int) ∧ i ≤ 3 ∧ vb W (w.heap.size + 1) 273 [.int .i64 x0,.int .i64 x1,.int .i64 y0,.int .i64 y1,.int .i64 z0,.int .i64 z1] ∧ (0 < i → axOk f l x0 x1 = true) ∧ (1 < i → axOk f l y0 y1 = true) ∧ (2 < i → axOk f l z0 z1 = true) ∧ Below w.heap.size w W) (fun s _ => 3 - (intOf s).toNat)
 case atStart => exact ⟨0,rfl,by omega,zu HV,fun h => by omega,fun h => by omega,fun h => by omega,zu HB⟩
 case round =>
  obtain ⟨i,rfl,hi,hv,h0,h1,h2,hw⟩:=hrel;have HW:=hide hw;clear hw HV HB;have c0:=hv.cell (m:=0) rfl;have c1:=hv.cell (m:=1) rfl;have c2:=hv.cell (m:=2) rfl;have c3:=hv.cell (m:=3) rfl;have c4:=hv.cell (m:=4) rfl;have c5:=hv.cell (m:=5) rfl;have V:=hide hv;have H0:=hide h0;have H1:=hide h1;have H2:=hide h2;clear hv h0 h1 h2;have hc : i = 0 ∨ i = 1 ∨ i = 2 ∨ i = 3:=by omega
  rcases hc with rfl | rfl | rfl | rfl
  ·go_wp2
   all_goals first
    | (go_ret;refine ⟨ret_bool ?_,by first | exact ba (zu HW) _⟩;simp [fitB,axOk];omega)
    | skip
   go_roundw
   case rel => exact ⟨1,rfl,by omega,(zu V).bel (ba (bfl _ _) _),fun _ => dt (by omega),fun h => by omega,fun h => by omega,ba (zu HW) _⟩
   case measure => simp [intOf]
  ·have k0:=zu H0 (by omega)
   go_wp2
   all_goals first
    | (go_ret;refine ⟨ret_bool ?_,by first | exact ba (zu HW) _⟩;simp [fitB,axOk];omega)
    | skip
   go_roundw
   case rel => exact ⟨2,rfl,by omega,(zu V).bel (ba (bfl _ _) _),fun _ => k0,fun _ => dt (by omega),fun h => by omega,ba (zu HW) _⟩
   case measure => simp [intOf]
  ·have k0:=zu H0 (by omega)
   have k1:=zu H1 (by omega);go_wp2
   all_goals first
    | (go_ret;refine ⟨ret_bool ?_,by first | exact ba (zu HW) _⟩;simp [fitB,axOk];omega)
    | skip
   go_roundw
   case rel => exact ⟨3,rfl,by omega,(zu V).bel (ba (bfl _ _) _),fun _ => k0,fun _ => k1,fun _ => dt (by omega),ba (zu HW) _⟩
   case measure => simp [intOf]
  ·have k0:=zu H0 (by omega)
   have k1:=zu H1 (by omega);have k2:=zu H2 (by omega);go_wp2;go_ret;exact ⟨ret_bool (by simp [fitB,k0,k1,k2]),zu HW⟩
end Go.Proofs.YtkiplmabjeadgaaGreat
