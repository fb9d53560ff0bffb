/- Another one of them. -/
import Derived.Test.YtkiplmabjeadgaaGreatRtSR
import Derived.Test.YtkiplmabjeadgaaGreatRunesR
namespace Go.Proofs.YtkiplmabjeadgaaGreat
set_option maxRecDepth 100000
set_option maxHeartbeats 16000000
open Go.ChangeShapes Go.WideShapes Go.ChangeAt Go.RowKit
set_option linter.unusedVariables false
set_option linter.unusedSimpArgs false
theorem td7 {s1 s2 s6 s7 s8 s9 s10 s11 s12 s13 s14 s15 s16 s17 s18 s19 s20 s21 s22 s23 s24 s25 s26 s27 s28 s29 s30 s31 s32 s33 s34 s35 s36 s37 s38 s39 s40 s41 s42 s43 s44 s45 s46 s47 s48 s49 s50 s51 s52 s53 s54 s55 s56 s57 s58 s59 s60 s61 : Value} {g go qq co ii p po nn cu dd fb : Nat} {a0 a1 a2 e2 : ByteArray} {a3 a4 a5 a6 a7 a8 a9 a10 a11 a12 a13 a14 : Int} {V : World} {K_ : Act → World → Prop}
  (HG0 : Hid (V.cell? ⟨g,0,none⟩ = some (.slice (some ⟨p,po,none⟩) nn cu))) (HEV : Hid (V.cell? ⟨fb,2,none⟩ = some (.string e2))) (HC0 : Hid (V.cell? ⟨p,po + dd * 15,none⟩ = some (.string a0))) (HC1 : Hid (V.cell? ⟨p,po + dd * 15 + 1,none⟩ = some (.string a1))) (HC2 : Hid (V.cell? ⟨p,po + dd * 15 + 2,none⟩ = some (.string a2))) (HC3 : Hid (V.cell? ⟨p,po + dd * 15 + 3,none⟩ = some (.int .i64 (a3)))) (HC4 : Hid (V.cell? ⟨p,po + dd * 15 + 4,none⟩ = some (.int .i64 (a4)))) (HC5 : Hid (V.cell? ⟨p,po + dd * 15 + 5,none⟩ = some (.int .i64 (a5)))) (HC6 : Hid (V.cell? ⟨p,po + dd * 15 + 6,none⟩ = some (.int .i64 (a6)))) (HC7 : Hid (V.cell? ⟨p,po + dd * 15 + 7,none⟩ = some (.int .i64 (a7)))) (HC8 : Hid (V.cell? ⟨p,po + dd * 15 + 8,none⟩ = some (.int .i64 (a8)))) (HC9 : Hid (V.cell? ⟨p,po + dd * 15 + 9,none⟩ = some (.int .i64 (a9)))) (HC10 : Hid (V.cell? ⟨p,po + dd * 15 + 10,none⟩ = some (.int .i64 (a10)))) (HC11 : Hid (V.cell? ⟨p,po + dd * 15 + 11,none⟩ = some (.int .i64 (a11)))) (HC12 : Hid (V.cell? ⟨p,po + dd * 15 + 12,none⟩ = some (.int .i64 (a12)))) (HC13 : Hid (V.cell? ⟨p,po + dd * 15 + 13,none⟩ = some (.int .i64 (a13)))) (HC14 : Hid (V.cell? ⟨p,po + dd * 15 + 14,none⟩ = some (.int .i64 (a14)))) (hbO : fb < V.heap.size) {oo0 : Value} (HO0 : Hid (V.cell? ⟨fb,0,none⟩ = some oo0)) {oo1 : Value} (HO1 : Hid (V.cell? ⟨fb,1,none⟩ = some oo1)) {oo2 : Value} (HO2 : Hid (V.cell? ⟨fb,2,none⟩ = some oo2)) {oo3 : Value} (HO3 : Hid (V.cell? ⟨fb,3,none⟩ = some oo3)) {oo4 : Value} (HO4 : Hid (V.cell? ⟨fb,4,none⟩ = some oo4)) {oo5 : Value} (HO5 : Hid (V.cell? ⟨fb,5,none⟩ = some oo5)) {oo6 : Value} (HO6 : Hid (V.cell? ⟨fb,6,none⟩ = some oo6)) {oo7 : Value} (HO7 : Hid (V.cell? ⟨fb,7,none⟩ = some oo7)) {oo8 : Value} (HO8 : Hid (V.cell? ⟨fb,8,none⟩ = some oo8)) {oo9 : Value} (HO9 : Hid (V.cell? ⟨fb,9,none⟩ = some oo9)) {oo10 : Value} (HO10 : Hid (V.cell? ⟨fb,10,none⟩ = some oo10)) {oo11 : Value} (HO11 : Hid (V.cell? ⟨fb,11,none⟩ = some oo11)) {oo12 : Value} (HO12 : Hid (V.cell? ⟨fb,12,none⟩ = some oo12)) {oo13 : Value} (HO13 : Hid (V.cell? ⟨fb,13,none⟩ = some oo13)) {oo14 : Value} (HO14 : Hid (V.cell? ⟨fb,14,none⟩ = some oo14)) (HOf : Hid (∀ o,V.frozen? ⟨fb,o,none⟩ = false))
  (HF10 : Hid (∀ Xw,Below V.heap.size V Xw → Calls Tryz.prog 75 #[.slice (some ⟨p,po,none⟩) nn cu,.string e2] Xw fun e w' => e = .returned (.int .i64 (dd : Int)) ∧ Below Xw.heap.size Xw w'))
  (HX11 : Hid (dd < nn))
  (hQ : ∀  (W1 W9 : World),W9 = (((((((((((((((W1.setCell ⟨fb,0,none⟩ (.string a0)).setCell ⟨fb,1,none⟩ (.string a1)).setCell ⟨fb,2,none⟩ (.string a2)).setCell ⟨fb,3,none⟩ (.int .i64 (a3))).setCell ⟨fb,4,none⟩ (.int .i64 (a4))).setCell ⟨fb,5,none⟩ (.int .i64 (a5))).setCell ⟨fb,6,none⟩ (.int .i64 (a6))).setCell ⟨fb,7,none⟩ (.int .i64 (a7))).setCell ⟨fb,8,none⟩ (.int .i64 (a8))).setCell ⟨fb,9,none⟩ (.int .i64 (a9))).setCell ⟨fb,10,none⟩ (.int .i64 (a10))).setCell ⟨fb,11,none⟩ (.int .i64 (a11))).setCell ⟨fb,12,none⟩ (.int .i64 (a12))).setCell ⟨fb,13,none⟩ (.int .i64 (a13))).setCell ⟨fb,14,none⟩ (.int .i64 (a14))) → Below V.heap.size V W1 → K_ { tmps:=#[.pointer (some ⟨g,0,none⟩),s1,s2,.slice (some ⟨go,0,none⟩) qq co,.int .i64 (ii : Int),.pointer (some ⟨fb,0,none⟩),s6,s7,s8,s9,s10,s11,s12,s13,s14,s15,s16,s17,s18,s19,s20,s21,s22,s23,s24,s25,s26,s27,s28,s29,s30,s31,s32,s33,s34,.pointer (some ⟨g,0,none⟩),.pointer (some ⟨g,0,none⟩),.pointer (some ⟨g,0,none⟩),.slice (some ⟨p,po,none⟩) nn cu,.pointer (some ⟨g,0,none⟩),.pointer (some ⟨g,0,none⟩),.pointer (some ⟨g,0,none⟩),.slice (some ⟨p,po,none⟩) nn cu,.pointer (some ⟨fb,2,none⟩),.string e2,.int .i64 (dd : Int),.pointer (some ⟨p,po + dd * 15,none⟩),.agg #[.string a0,.string a1,.string a2,.int .i64 (a3),.int .i64 (a4),.int .i64 (a5),.int .i64 (a6),.int .i64 (a7),.int .i64 (a8),.int .i64 (a9),.int .i64 (a10),.int .i64 (a11),.int .i64 (a12),.int .i64 (a13),.int .i64 (a14)],s48,s49,s50,s51,s52,s53,s54,s55,s56,s57,s58,s59,s60,s61],defers:=[] } W9) :
  Go.Code.wp Tryz.prog (rg87 7) (Only K_) { tmps:=#[.pointer (some ⟨g,0,none⟩),s1,s2,.slice (some ⟨go,0,none⟩) qq co,.int .i64 (ii : Int),.pointer (some ⟨fb,0,none⟩),s6,s7,s8,s9,s10,s11,s12,s13,s14,s15,s16,s17,s18,s19,s20,s21,s22,s23,s24,s25,s26,s27,s28,s29,s30,s31,s32,s33,s34,s35,s36,s37,s38,s39,s40,s41,s42,s43,s44,s45,s46,s47,s48,s49,s50,s51,s52,s53,s54,s55,s56,s57,s58,s59,s60,s61],defers:=[] } V:=by
 have HQ:=hide hQ;clear hQ
 conv => arg 2;whnf
 refine wp_region_inv2 (fun Lb A W => ∃ (u0 u1 u2 u3 u4 u5 u6 u7 u8 u9 u10 u11 u12 u13 : Bool) (dm : Nat),Lb = #[u0,u1,u2,u3,u4,u5,u6,u7,u8,u9,u10,u11,u12,u13] ∧ A = ({ tmps:=#[.pointer (some ⟨g,0,none⟩),s1,s2,.slice (some ⟨go,0,none⟩) qq co,.int .i64 (ii : Int),.pointer (some ⟨fb,0,none⟩),s6,s7,s8,s9,s10,s11,s12,s13,s14,s15,s16,s17,s18,s19,s20,s21,s22,s23,s24,s25,s26,s27,s28,s29,s30,s31,s32,s33,s34,(bif u0 then .pointer (some ⟨g,0,none⟩) else s35),(bif u1 then .pointer (some ⟨g,0,none⟩) else s36),(bif u2 then .pointer (some ⟨g,0,none⟩) else s37),(bif u3 then .slice (some ⟨p,po,none⟩) nn cu else s38),(bif u4 then .pointer (some ⟨g,0,none⟩) else s39),(bif u5 then .pointer (some ⟨g,0,none⟩) else s40),(bif u6 then .pointer (some ⟨g,0,none⟩) else s41),(bif u7 then .slice (some ⟨p,po,none⟩) nn cu else s42),(bif u8 then .pointer (some ⟨fb,2,none⟩) else s43),(bif u9 then .string e2 else s44),(bif u10 then .int .i64 (dd : Int) else s45),(bif u11 then .pointer (some ⟨p,po + dd * 15,none⟩) else s46),(bif u12 then .agg #[.string a0,.string a1,.string a2,.int .i64 (a3),.int .i64 (a4),.int .i64 (a5),.int .i64 (a6),.int .i64 (a7),.int .i64 (a8),.int .i64 (a9),.int .i64 (a10),.int .i64 (a11),.int .i64 (a12),.int .i64 (a13),.int .i64 (a14)] else s47),s48,s49,s50,s51,s52,s53,s54,s55,s56,s57,s58,s59,s60,s61],defers:=[] } : Act) ∧ (u13 = false → Below V.heap.size V W) ∧ (u13 = true → ∃ W1,Below V.heap.size V W1 ∧ W = (((((((((((((((W1.setCell ⟨fb,0,none⟩ (.string a0)).setCell ⟨fb,1,none⟩ (.string a1)).setCell ⟨fb,2,none⟩ (.string a2)).setCell ⟨fb,3,none⟩ (.int .i64 (a3))).setCell ⟨fb,4,none⟩ (.int .i64 (a4))).setCell ⟨fb,5,none⟩ (.int .i64 (a5))).setCell ⟨fb,6,none⟩ (.int .i64 (a6))).setCell ⟨fb,7,none⟩ (.int .i64 (a7))).setCell ⟨fb,8,none⟩ (.int .i64 (a8))).setCell ⟨fb,9,none⟩ (.int .i64 (a9))).setCell ⟨fb,10,none⟩ (.int .i64 (a10))).setCell ⟨fb,11,none⟩ (.int .i64 (a11))).setCell ⟨fb,12,none⟩ (.int .i64 (a12))).setCell ⟨fb,13,none⟩ (.int .i64 (a13))).setCell ⟨fb,14,none⟩ (.int .i64 (a14)))) ∧ (u13 = true → u0 = true ∧ u1 = true ∧ u2 = true ∧ u3 = true ∧ u4 = true ∧ u5 = true ∧ u6 = true ∧ u7 = true ∧ u8 = true ∧ u9 = true ∧ u10 = true ∧ u11 = true ∧ u12 = true)) (by kernel_rfl) (by kernel_rfl) ?h0 ?hstep ?hend
 case h0 =>
  exact ⟨false,false,false,false,false,false,false,false,false,false,false,false,false,false,0,rfl,rfl,(fun _ => Below.drew (bfl _ _)),zf,zf⟩
 case hstep =>
  intro Lb A W hI;obtain ⟨u0,u1,u2,u3,u4,hI⟩:=hI;obtain ⟨u5,u6,u7,u8,u9,hI⟩:=hI;obtain ⟨u10,u11,u12,u13,dm,hI⟩:=hI;obtain ⟨hLb,hI⟩:=hI;obtain ⟨hA,hI⟩:=hI;obtain ⟨kB,hI⟩:=hI;obtain ⟨kZ,hI⟩:=hI;have kF:=hI;clear hI;subst hLb;subst hA;replace kB:=hide kB;replace kZ:=hide kZ;replace kF:=hide kF;refine ⟨?_,?_,?_,?_,?_,?_,?_,?_,?_,?_,?_,?_,?_,?_,trivial⟩
  ·intro h0 hd K hK
   have z : u0 = false:=h0;have z13_ : u13 = false:=znb fun hu => z.symm.trans ((zu kF hu).1)
   subst z13_;subst z;clear h0 hd;rw [if_pos (by rfl)];go_simp;exact zu hK _ _ ⟨true,u1,u2,u3,u4,u5,u6,u7,u8,u9,u10,u11,u12,false,dm,rfl,rfl,zu kB,zf,zf⟩
  ·intro h0 hd K hK
   have z : u1 = false:=h0;have z13_ : u13 = false:=znb fun hu => z.symm.trans ((zu kF hu).2.1)
   obtain ⟨rfl⟩ : u0 = true:=by simp [Region.binds] at hd;simp [hd]
   subst z13_;subst z;clear h0 hd;rw [if_pos (by rfl)];go_simp;exact zu hK _ _ ⟨true,true,u2,u3,u4,u5,u6,u7,u8,u9,u10,u11,u12,false,dm,rfl,rfl,zu kB,zf,zf⟩
  ·intro h0 hd K hK
   have z : u2 = false:=h0;have z13_ : u13 = false:=znb fun hu => z.symm.trans ((zu kF hu).2.2.1)
   obtain ⟨rfl⟩ : u1 = true:=by simp [Region.binds] at hd;simp [hd]
   subst z13_;subst z;clear h0 hd;rw [if_pos (by rfl)];go_simp;exact zu hK _ _ ⟨u0,true,true,u3,u4,u5,u6,u7,u8,u9,u10,u11,u12,false,dm,rfl,rfl,zu kB,zf,zf⟩
  ·intro h0 hd K hK
   have z : u3 = false:=h0;have z13_ : u13 = false:=znb fun hu => z.symm.trans ((zu kF hu).2.2.2.1)
   obtain ⟨rfl⟩ : u2 = true:=by simp [Region.binds] at hd;simp [hd]
   subst z13_;subst z;clear h0 hd;rw [if_pos (by rfl)];have c0:=keep1 (zu kB rfl) (zu HG0);go_simp;exact zu hK _ _ ⟨u0,u1,true,true,u4,u5,u6,u7,u8,u9,u10,u11,u12,false,dm,rfl,rfl,zu kB,zf,zf⟩
  ·intro h0 hd K hK
   have z : u4 = false:=h0;have z13_ : u13 = false:=znb fun hu => z.symm.trans ((zu kF hu).2.2.2.2.1)
   subst z13_;subst z;clear h0 hd;rw [if_pos (by rfl)];go_simp;exact zu hK _ _ ⟨u0,u1,u2,u3,true,u5,u6,u7,u8,u9,u10,u11,u12,false,dm,rfl,rfl,zu kB,zf,zf⟩
  ·intro h0 hd K hK
   have z : u5 = false:=h0;have z13_ : u13 = false:=znb fun hu => z.symm.trans ((zu kF hu).2.2.2.2.2.1)
   obtain ⟨rfl⟩ : u4 = true:=by simp [Region.binds] at hd;simp [hd]
   subst z13_;subst z;clear h0 hd;rw [if_pos (by rfl)];go_simp;exact zu hK _ _ ⟨u0,u1,u2,u3,true,true,u6,u7,u8,u9,u10,u11,u12,false,dm,rfl,rfl,zu kB,zf,zf⟩
  ·intro h0 hd K hK
   have z : u6 = false:=h0;have z13_ : u13 = false:=znb fun hu => z.symm.trans ((zu kF hu).2.2.2.2.2.2.1)
   obtain ⟨rfl⟩ : u5 = true:=by simp [Region.binds] at hd;simp [hd]
   subst z13_;subst z;clear h0 hd;rw [if_pos (by rfl)];go_simp;exact zu hK _ _ ⟨u0,u1,u2,u3,u4,true,true,u7,u8,u9,u10,u11,u12,false,dm,rfl,rfl,zu kB,zf,zf⟩
  ·intro h0 hd K hK
   have z : u7 = false:=h0;have z13_ : u13 = false:=znb fun hu => z.symm.trans ((zu kF hu).2.2.2.2.2.2.2.1)
   obtain ⟨rfl⟩ : u6 = true:=by simp [Region.binds] at hd;simp [hd]
   subst z13_;subst z;clear h0 hd;rw [if_pos (by rfl)];have c0:=keep1 (zu kB rfl) (zu HG0);go_simp;exact zu hK _ _ ⟨u0,u1,u2,u3,u4,u5,true,true,u8,u9,u10,u11,u12,false,dm,rfl,rfl,zu kB,zf,zf⟩
  ·intro h0 hd K hK
   have z : u8 = false:=h0;have z13_ : u13 = false:=znb fun hu => z.symm.trans ((zu kF hu).2.2.2.2.2.2.2.2.1)
   subst z13_;subst z;clear h0 hd;rw [if_pos (by rfl)];go_simp;exact zu hK _ _ ⟨u0,u1,u2,u3,u4,u5,u6,u7,true,u9,u10,u11,u12,false,dm,rfl,rfl,zu kB,zf,zf⟩
  ·intro h0 hd K hK
   have z : u9 = false:=h0;have z13_ : u13 = false:=znb fun hu => z.symm.trans ((zu kF hu).2.2.2.2.2.2.2.2.2.1)
   obtain ⟨rfl⟩ : u8 = true:=by simp [Region.binds] at hd;simp [hd]
   subst z13_;subst z;clear h0 hd;rw [if_pos (by rfl)];have c0:=keep1 (zu kB rfl) (zu HEV);go_simp;exact zu hK _ _ ⟨u0,u1,u2,u3,u4,u5,u6,u7,true,true,u10,u11,u12,false,dm,rfl,rfl,zu kB,zf,zf⟩
  ·intro h0 hd K hK
   have z : u10 = false:=h0;have z13_ : u13 = false:=znb fun hu => z.symm.trans ((zu kF hu).2.2.2.2.2.2.2.2.2.2.1)
   obtain ⟨rfl,rfl⟩ : u7 = true ∧ u9 = true:=by simp [Region.binds] at hd;simp [hd]
   subst z13_;subst z;clear h0 hd;rw [if_pos (by rfl)];go_simp;refine (zu HF10 W (zu kB rfl)).mono ?_;rintro e w8 ⟨rfl,hb8⟩;exact zu hK _ _ ⟨u0,u1,u2,u3,u4,u5,u6,true,u8,true,true,u11,u12,false,dm,rfl,rfl,(fun _ => bc (zu kB rfl) hb8),zf,zf⟩
  ·intro h0 hd K hK
   have z : u11 = false:=h0;have z13_ : u13 = false:=znb fun hu => z.symm.trans ((zu kF hu).2.2.2.2.2.2.2.2.2.2.2.1)
   obtain ⟨rfl,rfl⟩ : u3 = true ∧ u10 = true:=by simp [Region.binds] at hd;simp [hd]
   subst z13_;subst z;clear h0 hd;rw [if_pos (by rfl)];have q1 : dd < nn:=zu HX11;have q2 : (dd : Int) < (nn : Int):=by omega
   go_simp;exact zu hK _ _ ⟨u0,u1,u2,true,u4,u5,u6,u7,u8,u9,true,true,u12,false,dm,rfl,rfl,zu kB,zf,zf⟩
  ·intro h0 hd K hK
   have z : u12 = false:=h0;have z13_ : u13 = false:=znb fun hu => z.symm.trans ((zu kF hu).2.2.2.2.2.2.2.2.2.2.2.2)
   obtain ⟨rfl⟩ : u11 = true:=by simp [Region.binds] at hd;simp [hd]
   subst z13_;subst z;clear h0 hd;rw [if_pos (by rfl)];have c0:=keep1 (zu kB rfl) (zu HC0);have c1:=keep1 (zu kB rfl) (zu HC1);have c2:=keep1 (zu kB rfl) (zu HC2);have c3:=keep1 (zu kB rfl) (zu HC3);have c4:=keep1 (zu kB rfl) (zu HC4);have c5:=keep1 (zu kB rfl) (zu HC5);have c6:=keep1 (zu kB rfl) (zu HC6);have c7:=keep1 (zu kB rfl) (zu HC7);have c8:=keep1 (zu kB rfl) (zu HC8);have c9:=keep1 (zu kB rfl) (zu HC9);have c10:=keep1 (zu kB rfl) (zu HC10);have c11:=keep1 (zu kB rfl) (zu HC11);have c12:=keep1 (zu kB rfl) (zu HC12);have c13:=keep1 (zu kB rfl) (zu HC13)
   have c14:=keep1 (zu kB rfl) (zu HC14);go_simp;exact zu hK _ _ ⟨u0,u1,u2,u3,u4,u5,u6,u7,u8,u9,u10,true,true,false,dm,rfl,rfl,zu kB,zf,zf⟩
  ·intro h0 hd K hK
   have z : u13 = false:=h0
   have zd0 : u0 = true ∧ u1 = true ∧ u2 = true ∧ u3 = true ∧ u4 = true ∧ u5 = true ∧ u6 = true ∧ u7 = true ∧ u8 = true ∧ u9 = true ∧ u10 = true ∧ u11 = true ∧ u12 = true:=by
    simp [Region.binds] at hd;simp [hd]
   have zd : u0 = true ∧ u1 = true ∧ u2 = true ∧ u3 = true ∧ u4 = true ∧ u5 = true ∧ u6 = true ∧ u7 = true ∧ u8 = true ∧ u9 = true ∧ u10 = true ∧ u11 = true ∧ u12 = true:=⟨zd0.1,zd0.2.1,zd0.2.2.1,zd0.2.2.2.1,zd0.2.2.2.2.1,zd0.2.2.2.2.2.1,zd0.2.2.2.2.2.2.1,zd0.2.2.2.2.2.2.2.1,zd0.2.2.2.2.2.2.2.2.1,zd0.2.2.2.2.2.2.2.2.2.1,zd0.2.2.2.2.2.2.2.2.2.2.1,zd0.2.2.2.2.2.2.2.2.2.2.2.1,zd0.2.2.2.2.2.2.2.2.2.2.2.2⟩
   obtain ⟨rfl,rfl,rfl,rfl,rfl,rfl,rfl,rfl,rfl,rfl,rfl,rfl,rfl⟩:=zd;subst z;clear h0 hd;rw [if_pos (by rfl)]
   have hB:=(zu kB rfl)
   have q0:=keep1 hB (zu HO0);have q1:=keep1 hB (zu HO1);have q2:=keep1 hB (zu HO2);have q3:=keep1 hB (zu HO3);have q4:=keep1 hB (zu HO4);have q5:=keep1 hB (zu HO5);have q6:=keep1 hB (zu HO6);have q7:=keep1 hB (zu HO7);have q8:=keep1 hB (zu HO8);have q9:=keep1 hB (zu HO9);have q10:=keep1 hB (zu HO10);have q11:=keep1 hB (zu HO11);have q12:=keep1 hB (zu HO12);have q13:=keep1 hB (zu HO13);have q14:=keep1 hB (zu HO14);have fz : ∀ o,W.frozen? ⟨fb,o,none⟩ = false:=fun o => keepz hB hbO (zu HOf o)
   have HBB:=hide hB;clear hB;go_simp;exact zu hK _ _ ⟨true,true,true,true,true,true,true,true,true,true,true,true,true,true,dm,rfl,rfl,zt,(fun _ => ⟨W,zu HBB,rfl⟩),(fun _ => ⟨rfl,rfl,rfl,rfl,rfl,rfl,rfl,rfl,rfl,rfl,rfl,rfl,rfl⟩)⟩
 case hend =>
  intro Lb A W hI;obtain ⟨u0,u1,u2,u3,u4,hI⟩:=hI;obtain ⟨u5,u6,u7,u8,u9,hI⟩:=hI;obtain ⟨u10,u11,u12,u13,dm,hI⟩:=hI;obtain ⟨hLb,hI⟩:=hI;obtain ⟨hA,hI⟩:=hI;obtain ⟨kB,hI⟩:=hI;obtain ⟨kZ,hI⟩:=hI;have kF:=hI;clear hI;subst hLb;subst hA;intro hL
  have hl : u0 = true ∧ u1 = true ∧ u2 = true ∧ u3 = true ∧ u4 = true ∧ u5 = true ∧ u6 = true ∧ u7 = true ∧ u8 = true ∧ u9 = true ∧ u10 = true ∧ u11 = true ∧ u12 = true ∧ u13 = true:=by
   have h2:=congrArg Array.toList hL
   simpa [List.replicate] using h2
  obtain ⟨rfl,rfl,rfl,rfl,rfl,rfl,rfl,rfl,rfl,rfl,rfl,rfl,rfl,rfl⟩:=hl;obtain ⟨W1,hA,hZ⟩:=kZ rfl;exact zu HQ   W1 W hZ hA
end Go.Proofs.YtkiplmabjeadgaaGreat
