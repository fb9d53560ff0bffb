/- The program's question whether a feature is right. -/
import Derived.Test.YtkiplmabjeadgaaGreatScPR
import Derived.Test.YtkiplmabjeadgaaGreatRunesR
import Derived.Test.YtkiplmabjeadgaaGreatBdS22R
namespace Go.Proofs.YtkiplmabjeadgaaGreat
set_option maxRecDepth 100000
set_option maxHeartbeats 16000000
open Go.ChangeShapes Go.WideShapes Go.ChangeAt Go.RowKit
set_option linter.unusedVariables false
set_option linter.unusedSimpArgs false
noncomputable def rg113 (id : Nat) : Go.Code:=match Tryz.f115.body with | some c => (regOfZ id c).getD .skip | none => .skip
theorem pc16f {s1 s2 s3 s5 s6 s9 s10 s11 s12 s13 s14 s15 s16 s17 s18 s19 s20 s21 s22 s23 s24 s25 s26 s27 s28 s29 s30 s31 s32 s33 s34 s35 s36 s37 s38 s39 s40 s41 s42 s43 s44 s45 s46 s47 s48 s49 s50 s51 s52 s53 s54 s55 s56 s57 s58 s59 s60 s61 s62 s63 s64 s65 s66 s67 s68 s69 s70 s71 s72 : Value} {p po nn cu gs ae kk : Nat} {a0 a1 a2 a3 a4 a5 b0 b1 b2 b3 b4 b5 : Int} {tt : Bool} {V : World} {K_ : Act → World → Prop}
  (HSE : Hid (V.cell? ⟨gs,kk,none⟩ = some (.bool (false)))) (HA0 : Hid (V.cell? ⟨p,po + ae * 6,none⟩ = some (.int .i64 (a0)))) (HA1 : Hid (V.cell? ⟨p,po + ae * 6 + 1,none⟩ = some (.int .i64 (a1)))) (HA2 : Hid (V.cell? ⟨p,po + ae * 6 + 2,none⟩ = some (.int .i64 (a2)))) (HA3 : Hid (V.cell? ⟨p,po + ae * 6 + 3,none⟩ = some (.int .i64 (a3)))) (HA4 : Hid (V.cell? ⟨p,po + ae * 6 + 4,none⟩ = some (.int .i64 (a4)))) (HA5 : Hid (V.cell? ⟨p,po + ae * 6 + 5,none⟩ = some (.int .i64 (a5)))) (HB0 : Hid (V.cell? ⟨p,po + kk * 6,none⟩ = some (.int .i64 (b0)))) (HB1 : Hid (V.cell? ⟨p,po + kk * 6 + 1,none⟩ = some (.int .i64 (b1)))) (HB2 : Hid (V.cell? ⟨p,po + kk * 6 + 2,none⟩ = some (.int .i64 (b2)))) (HB3 : Hid (V.cell? ⟨p,po + kk * 6 + 3,none⟩ = some (.int .i64 (b3)))) (HB4 : Hid (V.cell? ⟨p,po + kk * 6 + 4,none⟩ = some (.int .i64 (b4)))) (HB5 : Hid (V.cell? ⟨p,po + kk * 6 + 5,none⟩ = some (.int .i64 (b5))))
  (HX2 : Hid (kk < nn))
  (HX8 : Hid (ae < nn))
  (HX12 : Hid (kk < nn))
  (HF14 : Hid (∀ Xw,Below V.heap.size V Xw → Calls Tryz.prog 146 #[.agg #[.int .i64 (a0),.int .i64 (a1),.int .i64 (a2),.int .i64 (a3),.int .i64 (a4),.int .i64 (a5)],.agg #[.int .i64 (b0),.int .i64 (b1),.int .i64 (b2),.int .i64 (b3),.int .i64 (b4),.int .i64 (b5)]] Xw fun e w' => e = .returned (.bool (tt)) ∧ Below Xw.heap.size Xw w'))
  (hQ : ∀  (W1 : World),Below V.heap.size V W1 → K_ { tmps:=#[.slice (some ⟨p,po,none⟩) nn cu,s1,s2,s3,.slice (some ⟨gs,0,none⟩) nn nn,s5,s6,.int .i64 (ae : Int),.int .i64 (kk : Int),s9,s10,s11,s12,s13,s14,s15,s16,s17,s18,s19,s20,s21,s22,s23,s24,s25,s26,s27,s28,s29,s30,s31,s32,s33,s34,s35,s36,s37,s38,s39,s40,s41,s42,s43,s44,s45,s46,s47,s48,.slice (some ⟨gs,0,none⟩) nn nn,.int .i64 (kk : Int),.pointer (some ⟨gs,kk,none⟩),.bool (false),.bool (!false),.bool (!false),.slice (some ⟨p,po,none⟩) nn cu,.int .i64 (ae : Int),.pointer (some ⟨p,po + ae * 6,none⟩),.agg #[.int .i64 (a0),.int .i64 (a1),.int .i64 (a2),.int .i64 (a3),.int .i64 (a4),.int .i64 (a5)],.slice (some ⟨p,po,none⟩) nn cu,.int .i64 (kk : Int),.pointer (some ⟨p,po + kk * 6,none⟩),.agg #[.int .i64 (b0),.int .i64 (b1),.int .i64 (b2),.int .i64 (b3),.int .i64 (b4),.int .i64 (b5)],.bool (tt),.bool (tt),s65,s66,s67,s68,s69,s70,s71,s72],defers:=[] } W1) :
  Go.Code.wp Tryz.prog (rg113 16) (Only K_) { tmps:=#[.slice (some ⟨p,po,none⟩) nn cu,s1,s2,s3,.slice (some ⟨gs,0,none⟩) nn nn,s5,s6,.int .i64 (ae : Int),.int .i64 (kk : Int),s9,s10,s11,s12,s13,s14,s15,s16,s17,s18,s19,s20,s21,s22,s23,s24,s25,s26,s27,s28,s29,s30,s31,s32,s33,s34,s35,s36,s37,s38,s39,s40,s41,s42,s43,s44,s45,s46,s47,s48,s49,s50,s51,s52,s53,s54,s55,s56,s57,s58,s59,s60,s61,s62,s63,s64,s65,s66,s67,s68,s69,s70,s71,s72],defers:=[] } V:=by
 have HQ:=hide hQ;clear hQ
 conv => arg 2;whnf
 refine wp_region_inv2 (fun Lb A W => ∃ (u0 u1 u2 u3 u4 u5 u6 u7 u8 u9 u10 u11 u12 u13 u14 u15 : Bool) (dm : Nat),Lb = #[u0,u1,u2,u3,u4,u5,u6,u7,u8,u9,u10,u11,u12,u13,u14,u15] ∧ A = ({ tmps:=#[.slice (some ⟨p,po,none⟩) nn cu,s1,s2,s3,.slice (some ⟨gs,0,none⟩) nn nn,s5,s6,.int .i64 (ae : Int),.int .i64 (kk : Int),s9,s10,s11,s12,s13,s14,s15,s16,s17,s18,s19,s20,s21,s22,s23,s24,s25,s26,s27,s28,s29,s30,s31,s32,s33,s34,s35,s36,s37,s38,s39,s40,s41,s42,s43,s44,s45,s46,s47,s48,(bif u0 then .slice (some ⟨gs,0,none⟩) nn nn else s49),(bif u1 then .int .i64 (kk : Int) else s50),(bif u2 then .pointer (some ⟨gs,kk,none⟩) else s51),(bif u3 then .bool (false) else s52),(bif u4 then .bool (!false) else s53),(bif u5 then .bool (!false) else s54),(bif u6 then .slice (some ⟨p,po,none⟩) nn cu else s55),(bif u7 then .int .i64 (ae : Int) else s56),(bif u8 then .pointer (some ⟨p,po + ae * 6,none⟩) else s57),(bif u9 then .agg #[.int .i64 (a0),.int .i64 (a1),.int .i64 (a2),.int .i64 (a3),.int .i64 (a4),.int .i64 (a5)] else s58),(bif u10 then .slice (some ⟨p,po,none⟩) nn cu else s59),(bif u11 then .int .i64 (kk : Int) else s60),(bif u12 then .pointer (some ⟨p,po + kk * 6,none⟩) else s61),(bif u13 then .agg #[.int .i64 (b0),.int .i64 (b1),.int .i64 (b2),.int .i64 (b3),.int .i64 (b4),.int .i64 (b5)] else s62),(bif u14 then .bool (tt) else s63),(bif u15 then .bool (tt) else s64),s65,s66,s67,s68,s69,s70,s71,s72],defers:=[] } : Act) ∧ Below V.heap.size V W ∧ (u2 = true → u0 = true ∧ u1 = true) ∧ (u3 = true → u2 = true) ∧ (u4 = true → u3 = true) ∧ (u5 = true → u4 = true) ∧ (u6 = true → u5 = true) ∧ (u7 = true → u5 = true) ∧ (u8 = true → u6 = true ∧ u7 = true ∧ u5 = true) ∧ (u9 = true → u8 = true ∧ u5 = true) ∧ (u10 = true → u5 = true) ∧ (u11 = true → u5 = true) ∧ (u12 = true → u10 = true ∧ u11 = true ∧ u5 = true) ∧ (u13 = true → u12 = true ∧ u5 = true) ∧ (u14 = true → u9 = true ∧ u13 = true ∧ u5 = true) ∧ (u15 = true → u0 = true ∧ u1 = true ∧ u2 = true ∧ u3 = true ∧ u4 = true ∧ u5 = true ∧ u6 = true ∧ u7 = true ∧ u8 = true ∧ u9 = true ∧ u10 = true ∧ u11 = true ∧ u12 = true ∧ u13 = true ∧ u14 = true)) (by kernel_rfl) (by kernel_rfl) ?h0 ?hstep ?hend
 case h0 =>
  exact ⟨false,false,false,false,false,false,false,false,false,false,false,false,false,false,false,false,0,rfl,rfl,Below.drew (bfl _ _),zf,zf,zf,zf,zf,zf,zf,zf,zf,zf,zf,zf,zf,zf⟩
 case hstep =>
  intro Lb A W hI;obtain ⟨u0,u1,u2,u3,u4,hI⟩:=hI;obtain ⟨u5,u6,u7,u8,u9,hI⟩:=hI;obtain ⟨u10,u11,u12,u13,u14,hI⟩:=hI;obtain ⟨u15,dm,hI⟩:=hI;obtain ⟨hLb,hI⟩:=hI;obtain ⟨hA,hI⟩:=hI;obtain ⟨kB,hI⟩:=hI;obtain ⟨l2,hI⟩:=hI;obtain ⟨l3,hI⟩:=hI;obtain ⟨l4,hI⟩:=hI;obtain ⟨l5,hI⟩:=hI;obtain ⟨l6,hI⟩:=hI;obtain ⟨l7,hI⟩:=hI;obtain ⟨l8,hI⟩:=hI;obtain ⟨l9,hI⟩:=hI;obtain ⟨l10,hI⟩:=hI;obtain ⟨l11,hI⟩:=hI;obtain ⟨l12,hI⟩:=hI;obtain ⟨l13,hI⟩:=hI;obtain ⟨l14,hI⟩:=hI;have kF:=hI;clear hI;subst hLb;subst hA;replace kB:=hide kB
  replace l2:=hide l2;replace l3:=hide l3;replace l4:=hide l4;replace l5:=hide l5;replace l6:=hide l6;replace l7:=hide l7;replace l8:=hide l8;replace l9:=hide l9;replace l10:=hide l10;replace l11:=hide l11;replace l12:=hide l12;replace l13:=hide l13;replace l14:=hide l14;replace kF:=hide kF;refine ⟨?_,?_,?_,?_,?_,?_,?_,?_,?_,?_,?_,?_,?_,?_,?_,?_,trivial⟩
  ·intro h0 hd K hK
   have z : u0 = false:=h0;have z15_ : u15 = false:=znb fun hu => z.symm.trans ((zu kF hu).1)
   subst z15_;subst z;clear h0 hd;rw [if_pos (by rfl)];go_simp;exact zu hK _ _ ⟨true,u1,u2,u3,u4,u5,u6,u7,u8,u9,u10,u11,u12,u13,u14,false,dm,rfl,rfl,zu kB,(fun h => ⟨rfl,(zu l2 h).2⟩),zu l3,zu l4,zu l5,zu l6,zu l7,zu l8,zu l9,zu l10,zu l11,zu l12,zu l13,zu l14,zf⟩
  ·intro h0 hd K hK
   have z : u1 = false:=h0;have z15_ : u15 = false:=znb fun hu => z.symm.trans ((zu kF hu).2.1)
   subst z15_;subst z;clear h0 hd;rw [if_pos (by rfl)];go_simp;exact zu hK _ _ ⟨u0,true,u2,u3,u4,u5,u6,u7,u8,u9,u10,u11,u12,u13,u14,false,dm,rfl,rfl,zu kB,(fun h => ⟨(zu l2 h).1,rfl⟩),zu l3,zu l4,zu l5,zu l6,zu l7,zu l8,zu l9,zu l10,zu l11,zu l12,zu l13,zu l14,zf⟩
  ·intro h0 hd K hK
   have z : u2 = false:=h0;have z15_ : u15 = false:=znb fun hu => z.symm.trans ((zu kF hu).2.2.1)
   obtain ⟨rfl,rfl⟩ : u0 = true ∧ u1 = true:=by simp [Region.binds] at hd;simp [hd]
   subst z15_;subst z;clear h0 hd;rw [if_pos (by rfl)];have q1 : kk < nn:=zu HX2;have q2 : (kk : Int) < (nn : Int):=by omega
   go_simp;exact zu hK _ _ ⟨true,true,true,u3,u4,u5,u6,u7,u8,u9,u10,u11,u12,u13,u14,false,dm,rfl,rfl,zu kB,(fun _ => ⟨rfl,rfl⟩),(fun h => rfl),zu l4,zu l5,zu l6,zu l7,zu l8,zu l9,zu l10,zu l11,zu l12,zu l13,zu l14,zf⟩
  ·intro h0 hd K hK
   have z : u3 = false:=h0;have z15_ : u15 = false:=znb fun hu => z.symm.trans ((zu kF hu).2.2.2.1)
   obtain ⟨rfl⟩ : u2 = true:=by simp [Region.binds] at hd;simp [hd]
   subst z15_;subst z;clear h0 hd;rw [if_pos (by rfl)];have c0:=keep1 (zu kB) (zu HSE);go_simp;exact zu hK _ _ ⟨u0,u1,true,true,u4,u5,u6,u7,u8,u9,u10,u11,u12,u13,u14,false,dm,rfl,rfl,zu kB,zu l2,(fun _ => rfl),(fun h => rfl),zu l5,zu l6,zu l7,zu l8,zu l9,zu l10,zu l11,zu l12,zu l13,zu l14,zf⟩
  ·intro h0 hd K hK
   have z : u4 = false:=h0;have z15_ : u15 = false:=znb fun hu => z.symm.trans ((zu kF hu).2.2.2.2.1)
   obtain ⟨rfl⟩ : u3 = true:=by simp [Region.binds] at hd;simp [hd]
   subst z15_;subst z;clear h0 hd;rw [if_pos (by rfl)];go_simp;exact zu hK _ _ ⟨u0,u1,u2,true,true,u5,u6,u7,u8,u9,u10,u11,u12,u13,u14,false,dm,rfl,rfl,zu kB,zu l2,zu l3,(fun _ => rfl),(fun h => rfl),zu l6,zu l7,zu l8,zu l9,zu l10,zu l11,zu l12,zu l13,zu l14,zf⟩
  ·intro h0 hd K hK
   have z : u5 = false:=h0;have z15_ : u15 = false:=znb fun hu => z.symm.trans ((zu kF hu).2.2.2.2.2.1)
   obtain ⟨rfl⟩ : u4 = true:=by simp [Region.binds] at hd;simp [hd]
   subst z15_;subst z;clear h0 hd;rw [if_pos (by rfl)];go_simp;exact zu hK _ _ ⟨u0,u1,u2,u3,true,true,u6,u7,u8,u9,u10,u11,u12,u13,u14,false,dm,rfl,rfl,zu kB,zu l2,zu l3,zu l4,(fun _ => rfl),(fun h => rfl),(fun h => rfl),(fun h => ⟨(zu l8 h).1,(zu l8 h).2.1,rfl⟩),(fun h => ⟨(zu l9 h).1,rfl⟩),(fun h => rfl),(fun h => rfl),(fun h => ⟨(zu l12 h).1,(zu l12 h).2.1,rfl⟩),(fun h => ⟨(zu l13 h).1,rfl⟩),(fun h => ⟨(zu l14 h).1,(zu l14 h).2.1,rfl⟩),zf⟩
  ·intro h0 hd K hK
   have z : u6 = false:=h0;have z15_ : u15 = false:=znb fun hu => z.symm.trans ((zu kF hu).2.2.2.2.2.2.1)
   obtain ⟨rfl⟩ : u5 = true:=by simp [Region.binds] at hd;simp [hd]
   subst z15_;subst z;clear h0 hd;rw [if_pos (by rfl)];go_simp;exact zu hK _ _ ⟨u0,u1,u2,u3,u4,true,true,u7,u8,u9,u10,u11,u12,u13,u14,false,dm,rfl,rfl,zu kB,zu l2,zu l3,zu l4,zu l5,(fun _ => rfl),(fun h => rfl),(fun h => ⟨rfl,(zu l8 h).2.1,rfl⟩),(fun h => ⟨(zu l9 h).1,rfl⟩),(fun h => rfl),(fun h => rfl),(fun h => ⟨(zu l12 h).1,(zu l12 h).2.1,rfl⟩),(fun h => ⟨(zu l13 h).1,rfl⟩),(fun h => ⟨(zu l14 h).1,(zu l14 h).2.1,rfl⟩),zf⟩
  ·intro h0 hd K hK
   have z : u7 = false:=h0;have z15_ : u15 = false:=znb fun hu => z.symm.trans ((zu kF hu).2.2.2.2.2.2.2.1)
   obtain ⟨rfl⟩ : u5 = true:=by simp [Region.binds] at hd;simp [hd]
   subst z15_;subst z;clear h0 hd;rw [if_pos (by rfl)];go_simp;exact zu hK _ _ ⟨u0,u1,u2,u3,u4,true,u6,true,u8,u9,u10,u11,u12,u13,u14,false,dm,rfl,rfl,zu kB,zu l2,zu l3,zu l4,zu l5,(fun h => rfl),(fun _ => rfl),(fun h => ⟨(zu l8 h).1,rfl,rfl⟩),(fun h => ⟨(zu l9 h).1,rfl⟩),(fun h => rfl),(fun h => rfl),(fun h => ⟨(zu l12 h).1,(zu l12 h).2.1,rfl⟩),(fun h => ⟨(zu l13 h).1,rfl⟩),(fun h => ⟨(zu l14 h).1,(zu l14 h).2.1,rfl⟩),zf⟩
  ·intro h0 hd K hK
   have z : u8 = false:=h0;have z15_ : u15 = false:=znb fun hu => z.symm.trans ((zu kF hu).2.2.2.2.2.2.2.2.1)
   obtain ⟨rfl,rfl,rfl⟩ : u6 = true ∧ u7 = true ∧ u5 = true:=by simp [Region.binds] at hd;simp [hd]
   subst z15_;subst z;clear h0 hd;rw [if_pos (by rfl)];have q1 : ae < nn:=zu HX8;have q2 : (ae : Int) < (nn : Int):=by omega
   go_simp;exact zu hK _ _ ⟨u0,u1,u2,u3,u4,true,true,true,true,u9,u10,u11,u12,u13,u14,false,dm,rfl,rfl,zu kB,zu l2,zu l3,zu l4,zu l5,(fun h => rfl),(fun h => rfl),(fun _ => ⟨rfl,rfl,rfl⟩),(fun h => ⟨rfl,rfl⟩),(fun h => rfl),(fun h => rfl),(fun h => ⟨(zu l12 h).1,(zu l12 h).2.1,rfl⟩),(fun h => ⟨(zu l13 h).1,rfl⟩),(fun h => ⟨(zu l14 h).1,(zu l14 h).2.1,rfl⟩),zf⟩
  ·intro h0 hd K hK
   have z : u9 = false:=h0;have z15_ : u15 = false:=znb fun hu => z.symm.trans ((zu kF hu).2.2.2.2.2.2.2.2.2.1)
   obtain ⟨rfl,rfl⟩ : u8 = true ∧ u5 = true:=by simp [Region.binds] at hd;simp [hd]
   subst z15_;subst z;clear h0 hd;rw [if_pos (by rfl)];have c0:=keep1 (zu kB) (zu HA0);have c1:=keep1 (zu kB) (zu HA1);have c2:=keep1 (zu kB) (zu HA2);have c3:=keep1 (zu kB) (zu HA3);have c4:=keep1 (zu kB) (zu HA4);have c5:=keep1 (zu kB) (zu HA5);go_simp
   exact zu hK _ _ ⟨u0,u1,u2,u3,u4,true,u6,u7,true,true,u10,u11,u12,u13,u14,false,dm,rfl,rfl,zu kB,zu l2,zu l3,zu l4,zu l5,(fun h => rfl),(fun h => rfl),(fun h => ⟨(zu l8 h).1,(zu l8 h).2.1,rfl⟩),(fun _ => ⟨rfl,rfl⟩),(fun h => rfl),(fun h => rfl),(fun h => ⟨(zu l12 h).1,(zu l12 h).2.1,rfl⟩),(fun h => ⟨(zu l13 h).1,rfl⟩),(fun h => ⟨rfl,(zu l14 h).2.1,rfl⟩),zf⟩
  ·intro h0 hd K hK
   have z : u10 = false:=h0;have z15_ : u15 = false:=znb fun hu => z.symm.trans ((zu kF hu).2.2.2.2.2.2.2.2.2.2.1)
   obtain ⟨rfl⟩ : u5 = true:=by simp [Region.binds] at hd;simp [hd]
   subst z15_;subst z;clear h0 hd;rw [if_pos (by rfl)];go_simp;exact zu hK _ _ ⟨u0,u1,u2,u3,u4,true,u6,u7,u8,u9,true,u11,u12,u13,u14,false,dm,rfl,rfl,zu kB,zu l2,zu l3,zu l4,zu l5,(fun h => rfl),(fun h => rfl),(fun h => ⟨(zu l8 h).1,(zu l8 h).2.1,rfl⟩),(fun h => ⟨(zu l9 h).1,rfl⟩),(fun _ => rfl),(fun h => rfl),(fun h => ⟨rfl,(zu l12 h).2.1,rfl⟩),(fun h => ⟨(zu l13 h).1,rfl⟩),(fun h => ⟨(zu l14 h).1,(zu l14 h).2.1,rfl⟩),zf⟩
  ·intro h0 hd K hK
   have z : u11 = false:=h0;have z15_ : u15 = false:=znb fun hu => z.symm.trans ((zu kF hu).2.2.2.2.2.2.2.2.2.2.2.1)
   obtain ⟨rfl⟩ : u5 = true:=by simp [Region.binds] at hd;simp [hd]
   subst z15_;subst z;clear h0 hd;rw [if_pos (by rfl)];go_simp;exact zu hK _ _ ⟨u0,u1,u2,u3,u4,true,u6,u7,u8,u9,u10,true,u12,u13,u14,false,dm,rfl,rfl,zu kB,zu l2,zu l3,zu l4,zu l5,(fun h => rfl),(fun h => rfl),(fun h => ⟨(zu l8 h).1,(zu l8 h).2.1,rfl⟩),(fun h => ⟨(zu l9 h).1,rfl⟩),(fun h => rfl),(fun _ => rfl),(fun h => ⟨(zu l12 h).1,rfl,rfl⟩),(fun h => ⟨(zu l13 h).1,rfl⟩),(fun h => ⟨(zu l14 h).1,(zu l14 h).2.1,rfl⟩),zf⟩
  ·intro h0 hd K hK
   have z : u12 = false:=h0;have z15_ : u15 = false:=znb fun hu => z.symm.trans ((zu kF hu).2.2.2.2.2.2.2.2.2.2.2.2.1)
   obtain ⟨rfl,rfl,rfl⟩ : u10 = true ∧ u11 = true ∧ u5 = true:=by simp [Region.binds] at hd;simp [hd]
   subst z15_;subst z;clear h0 hd;rw [if_pos (by rfl)];have q1 : kk < nn:=zu HX12;have q2 : (kk : Int) < (nn : Int):=by omega
   go_simp;exact zu hK _ _ ⟨u0,u1,u2,u3,u4,true,u6,u7,u8,u9,true,true,true,u13,u14,false,dm,rfl,rfl,zu kB,zu l2,zu l3,zu l4,zu l5,(fun h => rfl),(fun h => rfl),(fun h => ⟨(zu l8 h).1,(zu l8 h).2.1,rfl⟩),(fun h => ⟨(zu l9 h).1,rfl⟩),(fun h => rfl),(fun h => rfl),(fun _ => ⟨rfl,rfl,rfl⟩),(fun h => ⟨rfl,rfl⟩),(fun h => ⟨(zu l14 h).1,(zu l14 h).2.1,rfl⟩),zf⟩
  ·intro h0 hd K hK
   have z : u13 = false:=h0;have z15_ : u15 = false:=znb fun hu => z.symm.trans ((zu kF hu).2.2.2.2.2.2.2.2.2.2.2.2.2.1)
   obtain ⟨rfl,rfl⟩ : u12 = true ∧ u5 = true:=by simp [Region.binds] at hd;simp [hd]
   subst z15_;subst z;clear h0 hd;rw [if_pos (by rfl)];have c0:=keep1 (zu kB) (zu HB0);have c1:=keep1 (zu kB) (zu HB1);have c2:=keep1 (zu kB) (zu HB2);have c3:=keep1 (zu kB) (zu HB3);have c4:=keep1 (zu kB) (zu HB4);have c5:=keep1 (zu kB) (zu HB5);go_simp
   exact zu hK _ _ ⟨u0,u1,u2,u3,u4,true,u6,u7,u8,u9,u10,u11,true,true,u14,false,dm,rfl,rfl,zu kB,zu l2,zu l3,zu l4,zu l5,(fun h => rfl),(fun h => rfl),(fun h => ⟨(zu l8 h).1,(zu l8 h).2.1,rfl⟩),(fun h => ⟨(zu l9 h).1,rfl⟩),(fun h => rfl),(fun h => rfl),(fun h => ⟨(zu l12 h).1,(zu l12 h).2.1,rfl⟩),(fun _ => ⟨rfl,rfl⟩),(fun h => ⟨(zu l14 h).1,rfl,rfl⟩),zf⟩
  ·intro h0 hd K hK
   have z : u14 = false:=h0;have z15_ : u15 = false:=znb fun hu => z.symm.trans ((zu kF hu).2.2.2.2.2.2.2.2.2.2.2.2.2.2)
   obtain ⟨rfl,rfl,rfl⟩ : u9 = true ∧ u13 = true ∧ u5 = true:=by simp [Region.binds] at hd;simp [hd]
   subst z15_;subst z;clear h0 hd;rw [if_pos (by rfl)];go_simp;refine (zu HF14 W (zu kB)).mono ?_;rintro e w8 ⟨rfl,hb8⟩;exact zu hK _ _ ⟨u0,u1,u2,u3,u4,true,u6,u7,u8,true,u10,u11,u12,true,true,false,dm,rfl,rfl,bc (zu kB) hb8,zu l2,zu l3,zu l4,zu l5,(fun h => rfl),(fun h => rfl),(fun h => ⟨(zu l8 h).1,(zu l8 h).2.1,rfl⟩),(fun h => ⟨(zu l9 h).1,rfl⟩),(fun h => rfl),(fun h => rfl),(fun h => ⟨(zu l12 h).1,(zu l12 h).2.1,rfl⟩),(fun h => ⟨(zu l13 h).1,rfl⟩),(fun _ => ⟨rfl,rfl,rfl⟩),zf⟩
  ·intro h0 hd K hK
   have z : u15 = false:=h0
   have zd0 : u5 = true ∧ u14 = true:=by
    simp [Region.binds] at hd;simp [hd]
   have zd : u5 = true ∧ u14 = true ∧ u0 = true ∧ u1 = true ∧ u2 = true ∧ u3 = true ∧ u4 = true ∧ u6 = true ∧ u7 = true ∧ u8 = true ∧ u9 = true ∧ u10 = true ∧ u11 = true ∧ u12 = true ∧ u13 = true:=⟨zd0.1,zd0.2,(zu l2 (zu l3 (zu l4 (zu l5 zd0.1)))).1,(zu l2 (zu l3 (zu l4 (zu l5 zd0.1)))).2,(zu l3 (zu l4 (zu l5 zd0.1))),(zu l4 (zu l5 zd0.1)),(zu l5 zd0.1),(zu l8 (zu l9 (zu l14 zd0.2).1).1).1,(zu l8 (zu l9 (zu l14 zd0.2).1).1).2.1,(zu l9 (zu l14 zd0.2).1).1,(zu l14 zd0.2).1,(zu l12 (zu l13 (zu l14 zd0.2).2.1).1).1,(zu l12 (zu l13 (zu l14 zd0.2).2.1).1).2.1,(zu l13 (zu l14 zd0.2).2.1).1,(zu l14 zd0.2).2.1⟩
   obtain ⟨rfl,rfl,rfl,rfl,rfl,rfl,rfl,rfl,rfl,rfl,rfl,rfl,rfl,rfl,rfl⟩:=zd;subst z;clear h0 hd;rw [if_pos (by rfl)];go_simp
   exact zu hK _ _ ⟨true,true,true,true,true,true,true,true,true,true,true,true,true,true,true,true,dm,rfl,rfl,zu kB,(fun _ => ⟨rfl,rfl⟩),(fun _ => rfl),(fun _ => rfl),(fun _ => rfl),(fun _ => rfl),(fun _ => rfl),(fun _ => ⟨rfl,rfl,rfl⟩),(fun _ => ⟨rfl,rfl⟩),(fun _ => rfl),(fun _ => rfl),(fun _ => ⟨rfl,rfl,rfl⟩),(fun _ => ⟨rfl,rfl⟩),(fun _ => ⟨rfl,rfl,rfl⟩),(fun _ => ⟨rfl,rfl,rfl,rfl,rfl,rfl,rfl,rfl,rfl,rfl,rfl,rfl,rfl,rfl,rfl⟩)⟩
 case hend =>
  intro Lb A W hI;obtain ⟨u0,u1,u2,u3,u4,hI⟩:=hI;obtain ⟨u5,u6,u7,u8,u9,hI⟩:=hI;obtain ⟨u10,u11,u12,u13,u14,hI⟩:=hI;obtain ⟨u15,dm,hI⟩:=hI;obtain ⟨hLb,hI⟩:=hI;obtain ⟨hA,hI⟩:=hI;obtain ⟨kB,hI⟩:=hI;obtain ⟨l2,hI⟩:=hI;obtain ⟨l3,hI⟩:=hI;obtain ⟨l4,hI⟩:=hI;obtain ⟨l5,hI⟩:=hI;obtain ⟨l6,hI⟩:=hI;obtain ⟨l7,hI⟩:=hI;obtain ⟨l8,hI⟩:=hI;obtain ⟨l9,hI⟩:=hI;obtain ⟨l10,hI⟩:=hI;obtain ⟨l11,hI⟩:=hI;obtain ⟨l12,hI⟩:=hI;obtain ⟨l13,hI⟩:=hI;obtain ⟨l14,hI⟩:=hI;have kF:=hI;clear hI;subst hLb;subst hA;intro hL
  have hl : u0 = true ∧ u1 = true ∧ u2 = true ∧ u3 = true ∧ u4 = true ∧ u5 = true ∧ u6 = true ∧ u7 = true ∧ u8 = true ∧ u9 = true ∧ u10 = true ∧ u11 = true ∧ u12 = true ∧ u13 = true ∧ u14 = true ∧ u15 = true:=by
   have h2:=congrArg Array.toList hL
   simpa [List.replicate] using h2
  obtain ⟨rfl,rfl,rfl,rfl,rfl,rfl,rfl,rfl,rfl,rfl,rfl,rfl,rfl,rfl,rfl,rfl⟩:=hl;exact zu HQ   W kB
theorem pc16t {s1 s2 s3 s5 s6 s9 s10 s11 s12 s13 s14 s15 s16 s17 s18 s19 s20 s21 s22 s23 s24 s25 s26 s27 s28 s29 s30 s31 s32 s33 s34 s35 s36 s37 s38 s39 s40 s41 s42 s43 s44 s45 s46 s47 s48 s49 s50 s51 s52 s53 s54 s55 s56 s57 s58 s59 s60 s61 s62 s63 s64 s65 s66 s67 s68 s69 s70 s71 s72 : Value} {p po nn cu gs ae kk : Nat} {V : World} {K_ : Act → World → Prop}
  (HSE : Hid (V.cell? ⟨gs,kk,none⟩ = some (.bool (true))))
  (HX2 : Hid (kk < nn))
  (hQ : ∀  (W1 : World),Below V.heap.size V W1 → K_ { tmps:=#[.slice (some ⟨p,po,none⟩) nn cu,s1,s2,s3,.slice (some ⟨gs,0,none⟩) nn nn,s5,s6,.int .i64 (ae : Int),.int .i64 (kk : Int),s9,s10,s11,s12,s13,s14,s15,s16,s17,s18,s19,s20,s21,s22,s23,s24,s25,s26,s27,s28,s29,s30,s31,s32,s33,s34,s35,s36,s37,s38,s39,s40,s41,s42,s43,s44,s45,s46,s47,s48,.slice (some ⟨gs,0,none⟩) nn nn,.int .i64 (kk : Int),.pointer (some ⟨gs,kk,none⟩),.bool (true),.bool (!true),.bool (!true),undef,undef,undef,undef,undef,undef,undef,undef,undef,.bool (false),s65,s66,s67,s68,s69,s70,s71,s72],defers:=[] } W1) :
  Go.Code.wp Tryz.prog (rg113 16) (Only K_) { tmps:=#[.slice (some ⟨p,po,none⟩) nn cu,s1,s2,s3,.slice (some ⟨gs,0,none⟩) nn nn,s5,s6,.int .i64 (ae : Int),.int .i64 (kk : Int),s9,s10,s11,s12,s13,s14,s15,s16,s17,s18,s19,s20,s21,s22,s23,s24,s25,s26,s27,s28,s29,s30,s31,s32,s33,s34,s35,s36,s37,s38,s39,s40,s41,s42,s43,s44,s45,s46,s47,s48,s49,s50,s51,s52,s53,s54,s55,s56,s57,s58,s59,s60,s61,s62,s63,s64,s65,s66,s67,s68,s69,s70,s71,s72],defers:=[] } V:=by
 have HQ:=hide hQ;clear hQ
 conv => arg 2;whnf
 refine wp_region_inv2 (fun Lb A W => ∃ (u0 u1 u2 u3 u4 u5 u6 u7 u8 u9 u10 u11 u12 u13 u14 u15 : Bool) (dm : Nat),Lb = #[u0,u1,u2,u3,u4,u5,u6,u7,u8,u9,u10,u11,u12,u13,u14,u15] ∧ A = ({ tmps:=#[.slice (some ⟨p,po,none⟩) nn cu,s1,s2,s3,.slice (some ⟨gs,0,none⟩) nn nn,s5,s6,.int .i64 (ae : Int),.int .i64 (kk : Int),s9,s10,s11,s12,s13,s14,s15,s16,s17,s18,s19,s20,s21,s22,s23,s24,s25,s26,s27,s28,s29,s30,s31,s32,s33,s34,s35,s36,s37,s38,s39,s40,s41,s42,s43,s44,s45,s46,s47,s48,(bif u0 then .slice (some ⟨gs,0,none⟩) nn nn else s49),(bif u1 then .int .i64 (kk : Int) else s50),(bif u2 then .pointer (some ⟨gs,kk,none⟩) else s51),(bif u3 then .bool (true) else s52),(bif u4 then .bool (!true) else s53),(bif u5 then .bool (!true) else s54),(bif u6 then undef else s55),(bif u7 then undef else s56),(bif u8 then undef else s57),(bif u9 then undef else s58),(bif u10 then undef else s59),(bif u11 then undef else s60),(bif u12 then undef else s61),(bif u13 then undef else s62),(bif u14 then undef else s63),(bif u15 then .bool (false) else s64),s65,s66,s67,s68,s69,s70,s71,s72],defers:=[] } : Act) ∧ Below V.heap.size V W ∧ (u2 = true → u0 = true ∧ u1 = true) ∧ (u3 = true → u2 = true) ∧ (u4 = true → u3 = true) ∧ (u5 = true → u4 = true) ∧ (u6 = true → u5 = true) ∧ (u7 = true → u5 = true) ∧ (u8 = true → u6 = true ∧ u7 = true ∧ u5 = true) ∧ (u9 = true → u8 = true ∧ u5 = true) ∧ (u10 = true → u5 = true) ∧ (u11 = true → u5 = true) ∧ (u12 = true → u10 = true ∧ u11 = true ∧ u5 = true) ∧ (u13 = true → u12 = true ∧ u5 = true) ∧ (u14 = true → u9 = true ∧ u13 = true ∧ u5 = true) ∧ (u15 = true → u0 = true ∧ u1 = true ∧ u2 = true ∧ u3 = true ∧ u4 = true ∧ u5 = true ∧ u6 = true ∧ u7 = true ∧ u8 = true ∧ u9 = true ∧ u10 = true ∧ u11 = true ∧ u12 = true ∧ u13 = true ∧ u14 = true)) (by kernel_rfl) (by kernel_rfl) ?h0 ?hstep ?hend
 case h0 =>
  exact ⟨false,false,false,false,false,false,false,false,false,false,false,false,false,false,false,false,0,rfl,rfl,Below.drew (bfl _ _),zf,zf,zf,zf,zf,zf,zf,zf,zf,zf,zf,zf,zf,zf⟩
 case hstep =>
  intro Lb A W hI;obtain ⟨u0,u1,u2,u3,u4,hI⟩:=hI;obtain ⟨u5,u6,u7,u8,u9,hI⟩:=hI;obtain ⟨u10,u11,u12,u13,u14,hI⟩:=hI;obtain ⟨u15,dm,hI⟩:=hI;obtain ⟨hLb,hI⟩:=hI;obtain ⟨hA,hI⟩:=hI;obtain ⟨kB,hI⟩:=hI;obtain ⟨l2,hI⟩:=hI;obtain ⟨l3,hI⟩:=hI;obtain ⟨l4,hI⟩:=hI;obtain ⟨l5,hI⟩:=hI;obtain ⟨l6,hI⟩:=hI;obtain ⟨l7,hI⟩:=hI;obtain ⟨l8,hI⟩:=hI;obtain ⟨l9,hI⟩:=hI;obtain ⟨l10,hI⟩:=hI;obtain ⟨l11,hI⟩:=hI;obtain ⟨l12,hI⟩:=hI;obtain ⟨l13,hI⟩:=hI;obtain ⟨l14,hI⟩:=hI;have kF:=hI;clear hI;subst hLb;subst hA;replace kB:=hide kB
  replace l2:=hide l2;replace l3:=hide l3;replace l4:=hide l4;replace l5:=hide l5;replace l6:=hide l6;replace l7:=hide l7;replace l8:=hide l8;replace l9:=hide l9;replace l10:=hide l10;replace l11:=hide l11;replace l12:=hide l12;replace l13:=hide l13;replace l14:=hide l14;replace kF:=hide kF;refine ⟨?_,?_,?_,?_,?_,?_,?_,?_,?_,?_,?_,?_,?_,?_,?_,?_,trivial⟩
  ·intro h0 hd K hK
   have z : u0 = false:=h0;have z15_ : u15 = false:=znb fun hu => z.symm.trans ((zu kF hu).1)
   subst z15_;subst z;clear h0 hd;rw [if_pos (by rfl)];go_simp;exact zu hK _ _ ⟨true,u1,u2,u3,u4,u5,u6,u7,u8,u9,u10,u11,u12,u13,u14,false,dm,rfl,rfl,zu kB,(fun h => ⟨rfl,(zu l2 h).2⟩),zu l3,zu l4,zu l5,zu l6,zu l7,zu l8,zu l9,zu l10,zu l11,zu l12,zu l13,zu l14,zf⟩
  ·intro h0 hd K hK
   have z : u1 = false:=h0;have z15_ : u15 = false:=znb fun hu => z.symm.trans ((zu kF hu).2.1)
   subst z15_;subst z;clear h0 hd;rw [if_pos (by rfl)];go_simp;exact zu hK _ _ ⟨u0,true,u2,u3,u4,u5,u6,u7,u8,u9,u10,u11,u12,u13,u14,false,dm,rfl,rfl,zu kB,(fun h => ⟨(zu l2 h).1,rfl⟩),zu l3,zu l4,zu l5,zu l6,zu l7,zu l8,zu l9,zu l10,zu l11,zu l12,zu l13,zu l14,zf⟩
  ·intro h0 hd K hK
   have z : u2 = false:=h0;have z15_ : u15 = false:=znb fun hu => z.symm.trans ((zu kF hu).2.2.1)
   obtain ⟨rfl,rfl⟩ : u0 = true ∧ u1 = true:=by simp [Region.binds] at hd;simp [hd]
   subst z15_;subst z;clear h0 hd;rw [if_pos (by rfl)];have q1 : kk < nn:=zu HX2;have q2 : (kk : Int) < (nn : Int):=by omega
   go_simp;exact zu hK _ _ ⟨true,true,true,u3,u4,u5,u6,u7,u8,u9,u10,u11,u12,u13,u14,false,dm,rfl,rfl,zu kB,(fun _ => ⟨rfl,rfl⟩),(fun h => rfl),zu l4,zu l5,zu l6,zu l7,zu l8,zu l9,zu l10,zu l11,zu l12,zu l13,zu l14,zf⟩
  ·intro h0 hd K hK
   have z : u3 = false:=h0;have z15_ : u15 = false:=znb fun hu => z.symm.trans ((zu kF hu).2.2.2.1)
   obtain ⟨rfl⟩ : u2 = true:=by simp [Region.binds] at hd;simp [hd]
   subst z15_;subst z;clear h0 hd;rw [if_pos (by rfl)];have c0:=keep1 (zu kB) (zu HSE);go_simp;exact zu hK _ _ ⟨u0,u1,true,true,u4,u5,u6,u7,u8,u9,u10,u11,u12,u13,u14,false,dm,rfl,rfl,zu kB,zu l2,(fun _ => rfl),(fun h => rfl),zu l5,zu l6,zu l7,zu l8,zu l9,zu l10,zu l11,zu l12,zu l13,zu l14,zf⟩
  ·intro h0 hd K hK
   have z : u4 = false:=h0;have z15_ : u15 = false:=znb fun hu => z.symm.trans ((zu kF hu).2.2.2.2.1)
   obtain ⟨rfl⟩ : u3 = true:=by simp [Region.binds] at hd;simp [hd]
   subst z15_;subst z;clear h0 hd;rw [if_pos (by rfl)];go_simp;exact zu hK _ _ ⟨u0,u1,u2,true,true,u5,u6,u7,u8,u9,u10,u11,u12,u13,u14,false,dm,rfl,rfl,zu kB,zu l2,zu l3,(fun _ => rfl),(fun h => rfl),zu l6,zu l7,zu l8,zu l9,zu l10,zu l11,zu l12,zu l13,zu l14,zf⟩
  ·intro h0 hd K hK
   have z : u5 = false:=h0;have z15_ : u15 = false:=znb fun hu => z.symm.trans ((zu kF hu).2.2.2.2.2.1)
   obtain ⟨rfl⟩ : u4 = true:=by simp [Region.binds] at hd;simp [hd]
   subst z15_;subst z;clear h0 hd;rw [if_pos (by rfl)];go_simp;exact zu hK _ _ ⟨u0,u1,u2,u3,true,true,u6,u7,u8,u9,u10,u11,u12,u13,u14,false,dm,rfl,rfl,zu kB,zu l2,zu l3,zu l4,(fun _ => rfl),(fun h => rfl),(fun h => rfl),(fun h => ⟨(zu l8 h).1,(zu l8 h).2.1,rfl⟩),(fun h => ⟨(zu l9 h).1,rfl⟩),(fun h => rfl),(fun h => rfl),(fun h => ⟨(zu l12 h).1,(zu l12 h).2.1,rfl⟩),(fun h => ⟨(zu l13 h).1,rfl⟩),(fun h => ⟨(zu l14 h).1,(zu l14 h).2.1,rfl⟩),zf⟩
  ·intro h0 hd K hK
   have z : u6 = false:=h0;have z15_ : u15 = false:=znb fun hu => z.symm.trans ((zu kF hu).2.2.2.2.2.2.1)
   obtain ⟨rfl⟩ : u5 = true:=by simp [Region.binds] at hd;simp [hd]
   subst z15_;subst z;clear h0 hd;rw [if_neg (Bool.eq_false_iff.1 (by rfl))]
   try go_simp
   exact zu hK _ _ ⟨u0,u1,u2,u3,u4,true,true,u7,u8,u9,u10,u11,u12,u13,u14,false,dm,rfl,rfl,zu kB,zu l2,zu l3,zu l4,zu l5,(fun _ => rfl),(fun h => rfl),(fun h => ⟨rfl,(zu l8 h).2.1,rfl⟩),(fun h => ⟨(zu l9 h).1,rfl⟩),(fun h => rfl),(fun h => rfl),(fun h => ⟨(zu l12 h).1,(zu l12 h).2.1,rfl⟩),(fun h => ⟨(zu l13 h).1,rfl⟩),(fun h => ⟨(zu l14 h).1,(zu l14 h).2.1,rfl⟩),zf⟩
  ·intro h0 hd K hK
   have z : u7 = false:=h0;have z15_ : u15 = false:=znb fun hu => z.symm.trans ((zu kF hu).2.2.2.2.2.2.2.1)
   obtain ⟨rfl⟩ : u5 = true:=by simp [Region.binds] at hd;simp [hd]
   subst z15_;subst z;clear h0 hd;rw [if_neg (Bool.eq_false_iff.1 (by rfl))]
   try go_simp
   exact zu hK _ _ ⟨u0,u1,u2,u3,u4,true,u6,true,u8,u9,u10,u11,u12,u13,u14,false,dm,rfl,rfl,zu kB,zu l2,zu l3,zu l4,zu l5,(fun h => rfl),(fun _ => rfl),(fun h => ⟨(zu l8 h).1,rfl,rfl⟩),(fun h => ⟨(zu l9 h).1,rfl⟩),(fun h => rfl),(fun h => rfl),(fun h => ⟨(zu l12 h).1,(zu l12 h).2.1,rfl⟩),(fun h => ⟨(zu l13 h).1,rfl⟩),(fun h => ⟨(zu l14 h).1,(zu l14 h).2.1,rfl⟩),zf⟩
  ·intro h0 hd K hK
   have z : u8 = false:=h0;have z15_ : u15 = false:=znb fun hu => z.symm.trans ((zu kF hu).2.2.2.2.2.2.2.2.1)
   obtain ⟨rfl,rfl,rfl⟩ : u6 = true ∧ u7 = true ∧ u5 = true:=by simp [Region.binds] at hd;simp [hd]
   subst z15_;subst z;clear h0 hd;rw [if_neg (Bool.eq_false_iff.1 (by rfl))]
   try go_simp
   exact zu hK _ _ ⟨u0,u1,u2,u3,u4,true,true,true,true,u9,u10,u11,u12,u13,u14,false,dm,rfl,rfl,zu kB,zu l2,zu l3,zu l4,zu l5,(fun h => rfl),(fun h => rfl),(fun _ => ⟨rfl,rfl,rfl⟩),(fun h => ⟨rfl,rfl⟩),(fun h => rfl),(fun h => rfl),(fun h => ⟨(zu l12 h).1,(zu l12 h).2.1,rfl⟩),(fun h => ⟨(zu l13 h).1,rfl⟩),(fun h => ⟨(zu l14 h).1,(zu l14 h).2.1,rfl⟩),zf⟩
  ·intro h0 hd K hK
   have z : u9 = false:=h0;have z15_ : u15 = false:=znb fun hu => z.symm.trans ((zu kF hu).2.2.2.2.2.2.2.2.2.1)
   obtain ⟨rfl,rfl⟩ : u8 = true ∧ u5 = true:=by simp [Region.binds] at hd;simp [hd]
   subst z15_;subst z;clear h0 hd;rw [if_neg (Bool.eq_false_iff.1 (by rfl))]
   try go_simp
   exact zu hK _ _ ⟨u0,u1,u2,u3,u4,true,u6,u7,true,true,u10,u11,u12,u13,u14,false,dm,rfl,rfl,zu kB,zu l2,zu l3,zu l4,zu l5,(fun h => rfl),(fun h => rfl),(fun h => ⟨(zu l8 h).1,(zu l8 h).2.1,rfl⟩),(fun _ => ⟨rfl,rfl⟩),(fun h => rfl),(fun h => rfl),(fun h => ⟨(zu l12 h).1,(zu l12 h).2.1,rfl⟩),(fun h => ⟨(zu l13 h).1,rfl⟩),(fun h => ⟨rfl,(zu l14 h).2.1,rfl⟩),zf⟩
  ·intro h0 hd K hK
   have z : u10 = false:=h0;have z15_ : u15 = false:=znb fun hu => z.symm.trans ((zu kF hu).2.2.2.2.2.2.2.2.2.2.1)
   obtain ⟨rfl⟩ : u5 = true:=by simp [Region.binds] at hd;simp [hd]
   subst z15_;subst z;clear h0 hd;rw [if_neg (Bool.eq_false_iff.1 (by rfl))]
   try go_simp
   exact zu hK _ _ ⟨u0,u1,u2,u3,u4,true,u6,u7,u8,u9,true,u11,u12,u13,u14,false,dm,rfl,rfl,zu kB,zu l2,zu l3,zu l4,zu l5,(fun h => rfl),(fun h => rfl),(fun h => ⟨(zu l8 h).1,(zu l8 h).2.1,rfl⟩),(fun h => ⟨(zu l9 h).1,rfl⟩),(fun _ => rfl),(fun h => rfl),(fun h => ⟨rfl,(zu l12 h).2.1,rfl⟩),(fun h => ⟨(zu l13 h).1,rfl⟩),(fun h => ⟨(zu l14 h).1,(zu l14 h).2.1,rfl⟩),zf⟩
  ·intro h0 hd K hK
   have z : u11 = false:=h0;have z15_ : u15 = false:=znb fun hu => z.symm.trans ((zu kF hu).2.2.2.2.2.2.2.2.2.2.2.1)
   obtain ⟨rfl⟩ : u5 = true:=by simp [Region.binds] at hd;simp [hd]
   subst z15_;subst z;clear h0 hd;rw [if_neg (Bool.eq_false_iff.1 (by rfl))]
   try go_simp
   exact zu hK _ _ ⟨u0,u1,u2,u3,u4,true,u6,u7,u8,u9,u10,true,u12,u13,u14,false,dm,rfl,rfl,zu kB,zu l2,zu l3,zu l4,zu l5,(fun h => rfl),(fun h => rfl),(fun h => ⟨(zu l8 h).1,(zu l8 h).2.1,rfl⟩),(fun h => ⟨(zu l9 h).1,rfl⟩),(fun h => rfl),(fun _ => rfl),(fun h => ⟨(zu l12 h).1,rfl,rfl⟩),(fun h => ⟨(zu l13 h).1,rfl⟩),(fun h => ⟨(zu l14 h).1,(zu l14 h).2.1,rfl⟩),zf⟩
  ·intro h0 hd K hK
   have z : u12 = false:=h0;have z15_ : u15 = false:=znb fun hu => z.symm.trans ((zu kF hu).2.2.2.2.2.2.2.2.2.2.2.2.1)
   obtain ⟨rfl,rfl,rfl⟩ : u10 = true ∧ u11 = true ∧ u5 = true:=by simp [Region.binds] at hd;simp [hd]
   subst z15_;subst z;clear h0 hd;rw [if_neg (Bool.eq_false_iff.1 (by rfl))]
   try go_simp
   exact zu hK _ _ ⟨u0,u1,u2,u3,u4,true,u6,u7,u8,u9,true,true,true,u13,u14,false,dm,rfl,rfl,zu kB,zu l2,zu l3,zu l4,zu l5,(fun h => rfl),(fun h => rfl),(fun h => ⟨(zu l8 h).1,(zu l8 h).2.1,rfl⟩),(fun h => ⟨(zu l9 h).1,rfl⟩),(fun h => rfl),(fun h => rfl),(fun _ => ⟨rfl,rfl,rfl⟩),(fun h => ⟨rfl,rfl⟩),(fun h => ⟨(zu l14 h).1,(zu l14 h).2.1,rfl⟩),zf⟩
  ·intro h0 hd K hK
   have z : u13 = false:=h0;have z15_ : u15 = false:=znb fun hu => z.symm.trans ((zu kF hu).2.2.2.2.2.2.2.2.2.2.2.2.2.1)
   obtain ⟨rfl,rfl⟩ : u12 = true ∧ u5 = true:=by simp [Region.binds] at hd;simp [hd]
   subst z15_;subst z;clear h0 hd;rw [if_neg (Bool.eq_false_iff.1 (by rfl))]
   try go_simp
   exact zu hK _ _ ⟨u0,u1,u2,u3,u4,true,u6,u7,u8,u9,u10,u11,true,true,u14,false,dm,rfl,rfl,zu kB,zu l2,zu l3,zu l4,zu l5,(fun h => rfl),(fun h => rfl),(fun h => ⟨(zu l8 h).1,(zu l8 h).2.1,rfl⟩),(fun h => ⟨(zu l9 h).1,rfl⟩),(fun h => rfl),(fun h => rfl),(fun h => ⟨(zu l12 h).1,(zu l12 h).2.1,rfl⟩),(fun _ => ⟨rfl,rfl⟩),(fun h => ⟨(zu l14 h).1,rfl,rfl⟩),zf⟩
  ·intro h0 hd K hK
   have z : u14 = false:=h0;have z15_ : u15 = false:=znb fun hu => z.symm.trans ((zu kF hu).2.2.2.2.2.2.2.2.2.2.2.2.2.2)
   obtain ⟨rfl,rfl,rfl⟩ : u9 = true ∧ u13 = true ∧ u5 = true:=by simp [Region.binds] at hd;simp [hd]
   subst z15_;subst z;clear h0 hd;rw [if_neg (Bool.eq_false_iff.1 (by rfl))]
   try go_simp
   exact zu hK _ _ ⟨u0,u1,u2,u3,u4,true,u6,u7,u8,true,u10,u11,u12,true,true,false,dm,rfl,rfl,zu kB,zu l2,zu l3,zu l4,zu l5,(fun h => rfl),(fun h => rfl),(fun h => ⟨(zu l8 h).1,(zu l8 h).2.1,rfl⟩),(fun h => ⟨(zu l9 h).1,rfl⟩),(fun h => rfl),(fun h => rfl),(fun h => ⟨(zu l12 h).1,(zu l12 h).2.1,rfl⟩),(fun h => ⟨(zu l13 h).1,rfl⟩),(fun _ => ⟨rfl,rfl,rfl⟩),zf⟩
  ·intro h0 hd K hK
   have z : u15 = false:=h0
   have zd0 : u5 = true ∧ u14 = true:=by
    simp [Region.binds] at hd;simp [hd]
   have zd : u5 = true ∧ u14 = true ∧ u0 = true ∧ u1 = true ∧ u2 = true ∧ u3 = true ∧ u4 = true ∧ u6 = true ∧ u7 = true ∧ u8 = true ∧ u9 = true ∧ u10 = true ∧ u11 = true ∧ u12 = true ∧ u13 = true:=⟨zd0.1,zd0.2,(zu l2 (zu l3 (zu l4 (zu l5 zd0.1)))).1,(zu l2 (zu l3 (zu l4 (zu l5 zd0.1)))).2,(zu l3 (zu l4 (zu l5 zd0.1))),(zu l4 (zu l5 zd0.1)),(zu l5 zd0.1),(zu l8 (zu l9 (zu l14 zd0.2).1).1).1,(zu l8 (zu l9 (zu l14 zd0.2).1).1).2.1,(zu l9 (zu l14 zd0.2).1).1,(zu l14 zd0.2).1,(zu l12 (zu l13 (zu l14 zd0.2).2.1).1).1,(zu l12 (zu l13 (zu l14 zd0.2).2.1).1).2.1,(zu l13 (zu l14 zd0.2).2.1).1,(zu l14 zd0.2).2.1⟩
   obtain ⟨rfl,rfl,rfl,rfl,rfl,rfl,rfl,rfl,rfl,rfl,rfl,rfl,rfl,rfl,rfl⟩:=zd;subst z;clear h0 hd;rw [if_pos (by rfl)];go_simp
   exact zu hK _ _ ⟨true,true,true,true,true,true,true,true,true,true,true,true,true,true,true,true,dm,rfl,rfl,zu kB,(fun _ => ⟨rfl,rfl⟩),(fun _ => rfl),(fun _ => rfl),(fun _ => rfl),(fun _ => rfl),(fun _ => rfl),(fun _ => ⟨rfl,rfl,rfl⟩),(fun _ => ⟨rfl,rfl⟩),(fun _ => rfl),(fun _ => rfl),(fun _ => ⟨rfl,rfl,rfl⟩),(fun _ => ⟨rfl,rfl⟩),(fun _ => ⟨rfl,rfl,rfl⟩),(fun _ => ⟨rfl,rfl,rfl,rfl,rfl,rfl,rfl,rfl,rfl,rfl,rfl,rfl,rfl,rfl,rfl⟩)⟩
 case hend =>
  intro Lb A W hI;obtain ⟨u0,u1,u2,u3,u4,hI⟩:=hI;obtain ⟨u5,u6,u7,u8,u9,hI⟩:=hI;obtain ⟨u10,u11,u12,u13,u14,hI⟩:=hI;obtain ⟨u15,dm,hI⟩:=hI;obtain ⟨hLb,hI⟩:=hI;obtain ⟨hA,hI⟩:=hI;obtain ⟨kB,hI⟩:=hI;obtain ⟨l2,hI⟩:=hI;obtain ⟨l3,hI⟩:=hI;obtain ⟨l4,hI⟩:=hI;obtain ⟨l5,hI⟩:=hI;obtain ⟨l6,hI⟩:=hI;obtain ⟨l7,hI⟩:=hI;obtain ⟨l8,hI⟩:=hI;obtain ⟨l9,hI⟩:=hI;obtain ⟨l10,hI⟩:=hI;obtain ⟨l11,hI⟩:=hI;obtain ⟨l12,hI⟩:=hI;obtain ⟨l13,hI⟩:=hI;obtain ⟨l14,hI⟩:=hI;have kF:=hI;clear hI;subst hLb;subst hA;intro hL
  have hl : u0 = true ∧ u1 = true ∧ u2 = true ∧ u3 = true ∧ u4 = true ∧ u5 = true ∧ u6 = true ∧ u7 = true ∧ u8 = true ∧ u9 = true ∧ u10 = true ∧ u11 = true ∧ u12 = true ∧ u13 = true ∧ u14 = true ∧ u15 = true:=by
   have h2:=congrArg Array.toList hL
   simpa [List.replicate] using h2
  obtain ⟨rfl,rfl,rfl,rfl,rfl,rfl,rfl,rfl,rfl,rfl,rfl,rfl,rfl,rfl,rfl,rfl⟩:=hl;exact zu HQ   W kB
theorem eqA (s o v : ByteArray) (k d x0 y0 z0 x1 y1 z1 n dx dy dz : Int) (W : World) : (binOp .eql 75 (.agg #[.string s,.string o,.string v,.int .i64 k,.int .i64 d,.int .i64 x0,.int .i64 y0,.int .i64 z0,.int .i64 x1,.int .i64 y1,.int .i64 z1,.int .i64 n,.int .i64 dx,.int .i64 dy,.int .i64 dz]) (.agg #[.string s,.string o,.string ⟨#[]⟩,.int .i64 k,.int .i64 d,.int .i64 x0,.int .i64 y0,.int .i64 z0,.int .i64 x1,.int .i64 y1,.int .i64 z1,.int .i64 0,.int .i64 0,.int .i64 0,.int .i64 0])).run Tryz.prog W = .ok (.bool ((v.toList == []) && (n == 0) && (dx == 0) && (dy == 0) && (dz == 0))) W:=by
 cases h0 : (v.toList == [])
 ·go_simp
 cases h1 : (n == 0)
 ·go_simp
 cases h2 : (dx == 0)
 ·go_simp
 cases h3 : (dy == 0)
 ·go_simp
 cases h4 : (dz == 0)
 ·go_simp
 go_simp
theorem eqB (s o v : ByteArray) (k d x0 y0 z0 x1 y1 z1 n dx dy dz : Int) (W : World) : (binOp .eql 75 (.agg #[.string s,.string o,.string v,.int .i64 k,.int .i64 d,.int .i64 x0,.int .i64 y0,.int .i64 z0,.int .i64 x1,.int .i64 y1,.int .i64 z1,.int .i64 n,.int .i64 dx,.int .i64 dy,.int .i64 dz]) (.agg #[.string s,.string ⟨#[]⟩,.string v,.int .i64 k,.int .i64 0,.int .i64 0,.int .i64 0,.int .i64 0,.int .i64 0,.int .i64 0,.int .i64 0,.int .i64 n,.int .i64 dx,.int .i64 dy,.int .i64 dz])).run Tryz.prog W = .ok (.bool ((o.toList == []) && (d == 0) && (x0 == 0) && (y0 == 0) && (z0 == 0) && (x1 == 0) && (y1 == 0) && (z1 == 0))) W:=by
 cases h0 : (o.toList == [])
 ·go_simp
 cases h1 : (d == 0)
 ·go_simp
 cases h2 : (x0 == 0)
 ·go_simp
 cases h3 : (y0 == 0)
 ·go_simp
 cases h4 : (z0 == 0)
 ·go_simp
 cases h5 : (x1 == 0)
 ·go_simp
 cases h6 : (y1 == 0)
 ·go_simp
 cases h7 : (z1 == 0)
 ·go_simp
 go_simp
end Go.Proofs.YtkiplmabjeadgaaGreat
