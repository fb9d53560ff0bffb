/- Whole features read at once. -/
import Derived.Test.YtkiplmabjeadgaaGreatBdTdR
import Derived.Test.YtkiplmabjeadgaaGreatBdD5R
import Derived.Test.YtkiplmabjeadgaaGreatCkMR
import Derived.Test.YtkiplmabjeadgaaGreatFtMathR
namespace Go.Proofs.YtkiplmabjeadgaaGreat
set_option maxRecDepth 100000
set_option maxHeartbeats 16000000
open Go.ChangeShapes Go.WideShapes Go.ChangeAt Go.RowKit
set_option linter.unusedVariables false
set_option linter.unusedSimpArgs false
noncomputable def rg86 (id : Nat) : Go.Code:=match Tryz.f81.body with | some c => (regOfZ id c).getD .skip | none => .skip
theorem fa9 {s1 s2 s3 s4 s5 s6 s8 s10 s11 s12 s13 s14 s15 s16 s17 s18 s19 s20 s21 s22 s23 s24 s25 s26 s27 s28 s29 s30 s31 s32 s33 s34 s35 s36 s37 s38 s39 s40 s41 s42 s43 s44 s45 s46 s47 s48 s49 s50 s51 s52 s53 s54 s55 s56 s57 s58 s59 s60 s61 s62 s63 s64 s65 s66 s67 : Value} {p po nn cu fb ii : Nat} {b0 b1 b2 b3 b4 b5 c0 c1 c2 c3 c4 c5 r0 r1 r2 r3 r4 r5 : Int} {V : World} {K_ : Act → World → Prop}
  (HB0 : Hid (V.cell? ⟨fb,4,none⟩ = some (.int .i64 (b0)))) (HB1 : Hid (V.cell? ⟨fb,5,none⟩ = some (.int .i64 (b1)))) (HB2 : Hid (V.cell? ⟨fb,6,none⟩ = some (.int .i64 (b2)))) (HB3 : Hid (V.cell? ⟨fb,7,none⟩ = some (.int .i64 (b3)))) (HB4 : Hid (V.cell? ⟨fb,8,none⟩ = some (.int .i64 (b4)))) (HB5 : Hid (V.cell? ⟨fb,9,none⟩ = some (.int .i64 (b5)))) (HC0 : Hid (V.cell? ⟨p,po + ii * 8 + 2,none⟩ = some (.int .i64 (c0)))) (HC1 : Hid (V.cell? ⟨p,po + ii * 8 + 2 + 1,none⟩ = some (.int .i64 (c1)))) (HC2 : Hid (V.cell? ⟨p,po + ii * 8 + 2 + 2,none⟩ = some (.int .i64 (c2)))) (HC3 : Hid (V.cell? ⟨p,po + ii * 8 + 2 + 3,none⟩ = some (.int .i64 (c3)))) (HC4 : Hid (V.cell? ⟨p,po + ii * 8 + 2 + 4,none⟩ = some (.int .i64 (c4)))) (HC5 : Hid (V.cell? ⟨p,po + ii * 8 + 2 + 5,none⟩ = some (.int .i64 (c5)))) (hbO : fb < V.heap.size) {oo0 : Value} (HO0 : Hid (V.cell? ⟨fb,4,none⟩ = some oo0)) {oo1 : Value} (HO1 : Hid (V.cell? ⟨fb,5,none⟩ = some oo1)) {oo2 : Value} (HO2 : Hid (V.cell? ⟨fb,6,none⟩ = some oo2)) {oo3 : Value} (HO3 : Hid (V.cell? ⟨fb,7,none⟩ = some oo3)) {oo4 : Value} (HO4 : Hid (V.cell? ⟨fb,8,none⟩ = some oo4)) {oo5 : Value} (HO5 : Hid (V.cell? ⟨fb,9,none⟩ = some oo5)) (HOf : Hid (∀ o,V.frozen? ⟨fb,o,none⟩ = false))
  (HX4 : Hid (ii < nn))
  (HF7 : Hid (∀ Xw,Below V.heap.size V Xw → Calls Tryz.prog 114 #[.agg #[.int .i64 (b0),.int .i64 (b1),.int .i64 (b2),.int .i64 (b3),.int .i64 (b4),.int .i64 (b5)],.agg #[.int .i64 (c0),.int .i64 (c1),.int .i64 (c2),.int .i64 (c3),.int .i64 (c4),.int .i64 (c5)]] Xw fun e w' => e = .returned (.agg #[.int .i64 (r0),.int .i64 (r1),.int .i64 (r2),.int .i64 (r3),.int .i64 (r4),.int .i64 (r5)]) ∧ Below Xw.heap.size Xw w'))
  (hQ : ∀  (W1 W9 : World),W9 = ((((((W1.setCell ⟨fb,4,none⟩ (.int .i64 (r0))).setCell ⟨fb,5,none⟩ (.int .i64 (r1))).setCell ⟨fb,6,none⟩ (.int .i64 (r2))).setCell ⟨fb,7,none⟩ (.int .i64 (r3))).setCell ⟨fb,8,none⟩ (.int .i64 (r4))).setCell ⟨fb,9,none⟩ (.int .i64 (r5))) → Below V.heap.size V W1 → K_ { tmps:=#[.slice (some ⟨p,po,none⟩) nn cu,s1,s2,s3,s4,s5,s6,.pointer (some ⟨fb,0,none⟩),s8,.int .i64 (ii : Int),s10,s11,s12,s13,s14,s15,s16,s17,s18,s19,s20,s21,s22,s23,s24,s25,s26,s27,s28,s29,s30,s31,s32,s33,s34,s35,s36,s37,s38,s39,s40,s41,s42,s43,.pointer (some ⟨fb,4,none⟩),.agg #[.int .i64 (b0),.int .i64 (b1),.int .i64 (b2),.int .i64 (b3),.int .i64 (b4),.int .i64 (b5)],.slice (some ⟨p,po,none⟩) nn cu,.int .i64 (ii : Int),.pointer (some ⟨p,po + ii * 8,none⟩),.pointer (some ⟨p,po + ii * 8 + 2,none⟩),.agg #[.int .i64 (c0),.int .i64 (c1),.int .i64 (c2),.int .i64 (c3),.int .i64 (c4),.int .i64 (c5)],.agg #[.int .i64 (r0),.int .i64 (r1),.int .i64 (r2),.int .i64 (r3),.int .i64 (r4),.int .i64 (r5)],.pointer (some ⟨fb,4,none⟩),s53,s54,s55,s56,s57,s58,s59,s60,s61,s62,s63,s64,s65,s66,s67],defers:=[] } W9) :
  Go.Code.wp Tryz.prog (rg86 9) (Only K_) { tmps:=#[.slice (some ⟨p,po,none⟩) nn cu,s1,s2,s3,s4,s5,s6,.pointer (some ⟨fb,0,none⟩),s8,.int .i64 (ii : Int),s10,s11,s12,s13,s14,s15,s16,s17,s18,s19,s20,s21,s22,s23,s24,s25,s26,s27,s28,s29,s30,s31,s32,s33,s34,s35,s36,s37,s38,s39,s40,s41,s42,s43,s44,s45,s46,s47,s48,s49,s50,s51,s52,s53,s54,s55,s56,s57,s58,s59,s60,s61,s62,s63,s64,s65,s66,s67],defers:=[] } V:=by
 have HQ:=hide hQ;clear hQ
 conv => arg 2;whnf
 refine wp_region_inv2 (fun Lb A W => ∃ (u0 u1 u2 u3 u4 u5 u6 u7 u8 u9 : Bool) (dm : Nat),Lb = #[u0,u1,u2,u3,u4,u5,u6,u7,u8,u9] ∧ A = ({ tmps:=#[.slice (some ⟨p,po,none⟩) nn cu,s1,s2,s3,s4,s5,s6,.pointer (some ⟨fb,0,none⟩),s8,.int .i64 (ii : Int),s10,s11,s12,s13,s14,s15,s16,s17,s18,s19,s20,s21,s22,s23,s24,s25,s26,s27,s28,s29,s30,s31,s32,s33,s34,s35,s36,s37,s38,s39,s40,s41,s42,s43,(bif u0 then .pointer (some ⟨fb,4,none⟩) else s44),(bif u1 then .agg #[.int .i64 (b0),.int .i64 (b1),.int .i64 (b2),.int .i64 (b3),.int .i64 (b4),.int .i64 (b5)] else s45),(bif u2 then .slice (some ⟨p,po,none⟩) nn cu else s46),(bif u3 then .int .i64 (ii : Int) else s47),(bif u4 then .pointer (some ⟨p,po + ii * 8,none⟩) else s48),(bif u5 then .pointer (some ⟨p,po + ii * 8 + 2,none⟩) else s49),(bif u6 then .agg #[.int .i64 (c0),.int .i64 (c1),.int .i64 (c2),.int .i64 (c3),.int .i64 (c4),.int .i64 (c5)] else s50),(bif u7 then .agg #[.int .i64 (r0),.int .i64 (r1),.int .i64 (r2),.int .i64 (r3),.int .i64 (r4),.int .i64 (r5)] else s51),(bif u8 then .pointer (some ⟨fb,4,none⟩) else s52),s53,s54,s55,s56,s57,s58,s59,s60,s61,s62,s63,s64,s65,s66,s67],defers:=[] } : Act) ∧ (u9 = false → Below V.heap.size V W) ∧ (u9 = true → ∃ W1,Below V.heap.size V W1 ∧ W = ((((((W1.setCell ⟨fb,4,none⟩ (.int .i64 (r0))).setCell ⟨fb,5,none⟩ (.int .i64 (r1))).setCell ⟨fb,6,none⟩ (.int .i64 (r2))).setCell ⟨fb,7,none⟩ (.int .i64 (r3))).setCell ⟨fb,8,none⟩ (.int .i64 (r4))).setCell ⟨fb,9,none⟩ (.int .i64 (r5)))) ∧ (u9 = true → u0 = true ∧ u1 = true ∧ u2 = true ∧ u3 = true ∧ u4 = true ∧ u5 = true ∧ u6 = true ∧ u7 = true ∧ u8 = true)) (by kernel_rfl) (by kernel_rfl) ?h0 ?hstep ?hend
 case h0 =>
  exact ⟨false,false,false,false,false,false,false,false,false,false,0,rfl,rfl,(fun _ => Below.drew (bfl _ _)),zf,zf⟩
 case hstep =>
  intro Lb A W hI;obtain ⟨u0,u1,u2,u3,u4,hI⟩:=hI;obtain ⟨u5,u6,u7,u8,u9,hI⟩:=hI;obtain ⟨dm,hI⟩:=hI;obtain ⟨hLb,hI⟩:=hI;obtain ⟨hA,hI⟩:=hI;obtain ⟨kB,hI⟩:=hI;obtain ⟨kZ,hI⟩:=hI;have kF:=hI;clear hI;subst hLb;subst hA;replace kB:=hide kB;replace kZ:=hide kZ;replace kF:=hide kF;refine ⟨?_,?_,?_,?_,?_,?_,?_,?_,?_,?_,trivial⟩
  ·intro h0 hd K hK
   have z : u0 = false:=h0;have z9_ : u9 = false:=znb fun hu => z.symm.trans ((zu kF hu).1)
   subst z9_;subst z;clear h0 hd;rw [if_pos (by rfl)];go_simp;exact zu hK _ _ ⟨true,u1,u2,u3,u4,u5,u6,u7,u8,false,dm,rfl,rfl,zu kB,zf,zf⟩
  ·intro h0 hd K hK
   have z : u1 = false:=h0;have z9_ : u9 = false:=znb fun hu => z.symm.trans ((zu kF hu).2.1)
   obtain ⟨rfl⟩ : u0 = true:=by simp [Region.binds] at hd;simp [hd]
   subst z9_;subst z;clear h0 hd;rw [if_pos (by rfl)];have c0:=keep1 (zu kB rfl) (zu HB0);have c1:=keep1 (zu kB rfl) (zu HB1);have c2:=keep1 (zu kB rfl) (zu HB2);have c3:=keep1 (zu kB rfl) (zu HB3);have c4:=keep1 (zu kB rfl) (zu HB4);have c5:=keep1 (zu kB rfl) (zu HB5);go_simp;exact zu hK _ _ ⟨true,true,u2,u3,u4,u5,u6,u7,u8,false,dm,rfl,rfl,zu kB,zf,zf⟩
  ·intro h0 hd K hK
   have z : u2 = false:=h0;have z9_ : u9 = false:=znb fun hu => z.symm.trans ((zu kF hu).2.2.1)
   subst z9_;subst z;clear h0 hd;rw [if_pos (by rfl)];go_simp;exact zu hK _ _ ⟨u0,u1,true,u3,u4,u5,u6,u7,u8,false,dm,rfl,rfl,zu kB,zf,zf⟩
  ·intro h0 hd K hK
   have z : u3 = false:=h0;have z9_ : u9 = false:=znb fun hu => z.symm.trans ((zu kF hu).2.2.2.1)
   subst z9_;subst z;clear h0 hd;rw [if_pos (by rfl)];go_simp;exact zu hK _ _ ⟨u0,u1,u2,true,u4,u5,u6,u7,u8,false,dm,rfl,rfl,zu kB,zf,zf⟩
  ·intro h0 hd K hK
   have z : u4 = false:=h0;have z9_ : u9 = false:=znb fun hu => z.symm.trans ((zu kF hu).2.2.2.2.1)
   obtain ⟨rfl,rfl⟩ : u2 = true ∧ u3 = true:=by simp [Region.binds] at hd;simp [hd]
   subst z9_;subst z;clear h0 hd;rw [if_pos (by rfl)];have q1 : ii < nn:=zu HX4;have q2 : (ii : Int) < (nn : Int):=by omega
   go_simp;exact zu hK _ _ ⟨u0,u1,true,true,true,u5,u6,u7,u8,false,dm,rfl,rfl,zu kB,zf,zf⟩
  ·intro h0 hd K hK
   have z : u5 = false:=h0;have z9_ : u9 = false:=znb fun hu => z.symm.trans ((zu kF hu).2.2.2.2.2.1)
   obtain ⟨rfl⟩ : u4 = true:=by simp [Region.binds] at hd;simp [hd]
   subst z9_;subst z;clear h0 hd;rw [if_pos (by rfl)];go_simp;exact zu hK _ _ ⟨u0,u1,u2,u3,true,true,u6,u7,u8,false,dm,rfl,rfl,zu kB,zf,zf⟩
  ·intro h0 hd K hK
   have z : u6 = false:=h0;have z9_ : u9 = false:=znb fun hu => z.symm.trans ((zu kF hu).2.2.2.2.2.2.1)
   obtain ⟨rfl⟩ : u5 = true:=by simp [Region.binds] at hd;simp [hd]
   subst z9_;subst z;clear h0 hd;rw [if_pos (by rfl)];have c0:=keep1 (zu kB rfl) (zu HC0);have c1:=keep1 (zu kB rfl) (zu HC1);have c2:=keep1 (zu kB rfl) (zu HC2);have c3:=keep1 (zu kB rfl) (zu HC3);have c4:=keep1 (zu kB rfl) (zu HC4);have c5:=keep1 (zu kB rfl) (zu HC5);go_simp;exact zu hK _ _ ⟨u0,u1,u2,u3,u4,true,true,u7,u8,false,dm,rfl,rfl,zu kB,zf,zf⟩
  ·intro h0 hd K hK
   have z : u7 = false:=h0;have z9_ : u9 = false:=znb fun hu => z.symm.trans ((zu kF hu).2.2.2.2.2.2.2.1)
   obtain ⟨rfl,rfl⟩ : u1 = true ∧ u6 = true:=by simp [Region.binds] at hd;simp [hd]
   subst z9_;subst z;clear h0 hd;rw [if_pos (by rfl)];go_simp;refine (zu HF7 W (zu kB rfl)).mono ?_;rintro e w8 ⟨rfl,hb8⟩;exact zu hK _ _ ⟨u0,true,u2,u3,u4,u5,true,true,u8,false,dm,rfl,rfl,(fun _ => bc (zu kB rfl) hb8),zf,zf⟩
  ·intro h0 hd K hK
   have z : u8 = false:=h0;have z9_ : u9 = false:=znb fun hu => z.symm.trans ((zu kF hu).2.2.2.2.2.2.2.2)
   obtain ⟨rfl⟩ : u7 = true:=by simp [Region.binds] at hd;simp [hd]
   subst z9_;subst z;clear h0 hd;rw [if_pos (by rfl)];go_simp;exact zu hK _ _ ⟨u0,u1,u2,u3,u4,u5,u6,true,true,false,dm,rfl,rfl,zu kB,zf,zf⟩
  ·intro h0 hd K hK
   have z : u9 = false:=h0
   have zd0 : u0 = true ∧ u1 = true ∧ u2 = true ∧ u3 = true ∧ u4 = true ∧ u5 = true ∧ u6 = true ∧ u7 = true ∧ u8 = true:=by
    simp [Region.binds] at hd;simp [hd]
   have zd : u0 = true ∧ u1 = true ∧ u2 = true ∧ u3 = true ∧ u4 = true ∧ u5 = true ∧ u6 = true ∧ u7 = true ∧ u8 = true:=⟨zd0.1,zd0.2.1,zd0.2.2.1,zd0.2.2.2.1,zd0.2.2.2.2.1,zd0.2.2.2.2.2.1,zd0.2.2.2.2.2.2.1,zd0.2.2.2.2.2.2.2.1,zd0.2.2.2.2.2.2.2.2⟩
   obtain ⟨rfl,rfl,rfl,rfl,rfl,rfl,rfl,rfl,rfl⟩:=zd;subst z;clear h0 hd;rw [if_pos (by rfl)]
   have hB:=(zu kB rfl)
   have q0:=keep1 hB (zu HO0);have q1:=keep1 hB (zu HO1);have q2:=keep1 hB (zu HO2);have q3:=keep1 hB (zu HO3);have q4:=keep1 hB (zu HO4);have q5:=keep1 hB (zu HO5);have fz : ∀ o,W.frozen? ⟨fb,o,none⟩ = false:=fun o => keepz hB hbO (zu HOf o)
   have HBB:=hide hB;clear hB;go_simp;exact zu hK _ _ ⟨true,true,true,true,true,true,true,true,true,true,dm,rfl,rfl,zt,(fun _ => ⟨W,zu HBB,rfl⟩),(fun _ => ⟨rfl,rfl,rfl,rfl,rfl,rfl,rfl,rfl,rfl⟩)⟩
 case hend =>
  intro Lb A W hI;obtain ⟨u0,u1,u2,u3,u4,hI⟩:=hI;obtain ⟨u5,u6,u7,u8,u9,hI⟩:=hI;obtain ⟨dm,hI⟩:=hI;obtain ⟨hLb,hI⟩:=hI;obtain ⟨hA,hI⟩:=hI;obtain ⟨kB,hI⟩:=hI;obtain ⟨kZ,hI⟩:=hI;have kF:=hI;clear hI;subst hLb;subst hA;intro hL
  have hl : u0 = true ∧ u1 = true ∧ u2 = true ∧ u3 = true ∧ u4 = true ∧ u5 = true ∧ u6 = true ∧ u7 = true ∧ u8 = true ∧ u9 = true:=by
   have h2:=congrArg Array.toList hL
   simpa [List.replicate] using h2
  obtain ⟨rfl,rfl,rfl,rfl,rfl,rfl,rfl,rfl,rfl,rfl⟩:=hl;obtain ⟨W1,hA,hZ⟩:=kZ rfl;exact zu HQ   W1 W hZ hA
theorem do19 {s1 s2 s3 s4 s5 s7 s8 s9 s10 s12 s13 s14 s15 s16 s17 s18 s19 s20 s21 s22 s23 s24 s25 s26 s27 s28 s29 s30 s31 s32 s33 s34 s35 s36 s37 s38 s39 s40 s41 s42 s43 s44 s45 s46 s47 s48 s49 s50 s51 s52 s53 s54 s55 s56 s57 s58 s59 s60 s61 s62 s63 s64 s65 s66 s67 s68 s69 s70 s71 s72 s73 s74 s75 s76 s77 s78 s79 s80 s81 s82 s83 s84 s85 s86 s87 s88 s89 s90 s91 s92 s93 s94 s95 s96 s97 s98 s99 s100 s101 s102 s103 s104 s105 s106 s107 s108 s109 s110 s111 s112 s113 s114 s115 s116 s117 s118 s119 s120 s121 s122 s123 s124 s125 s126 s127 s128 s129 s130 s131 s132 s133 s134 s135 s136 s137 s138 s139 s140 s141 s142 s143 s144 s145 s146 s147 s148 s149 s150 s151 s152 s153 s154 s155 s156 s157 s158 s159 s160 s161 s162 s163 s164 s165 s166 s167 s168 s169 s170 s171 s172 s173 s174 s175 s176 s177 s178 s179 s180 s181 s182 s183 s184 s185 s186 : Value} {g gF by_ : Nat} {sd f1 f2 f3 f4 f5 f6 f7 f8 f9 : Int} {Tl_ : World → Value → Prop} {V : World} {K_ : Act → World → Prop} (hkp : ∀ {W W' : World} {r : Value},Tl_ W r → Below W.heap.size W W' → Tl_ W' r)
  (HSD : Hid (V.cell? ⟨gF,4,none⟩ = some (.int .i64 (sd))))
  (HF1 : Hid (∀ Xw,Below V.heap.size V Xw → Calls Tryz.prog 79 #[.pointer (some ⟨g,0,none⟩)] Xw fun e w' => (∃ r_,e = .returned (r_) ∧ Tl_ w' r_) ∧ Below Xw.heap.size Xw w'))
  (HF5 : Hid (∀ (rv : Value) Xw,Below V.heap.size V Xw → Tl_ Xw rv → Calls Tryz.prog 81 #[rv,.int .i64 (by_ : Int),.int .i64 (sd)] Xw fun e w' => e = .returned (.agg #[.string ⟨#[]⟩,.int .i64 (f1),.int .i64 (f2),.int .i64 (f3),.int .i64 (f4),.int .i64 (f5),.int .i64 (f6),.int .i64 (f7),.int .i64 (f8),.int .i64 (f9)]) ∧ Below Xw.heap.size Xw w'))
  (hQ : ∀ (n6 : Nat)  (rv : Value) (W1 : World),Below V.heap.size V W1 → vb W1 n6 43 [.string ⟨#[]⟩,.int .i64 (f1),.int .i64 (f2),.int .i64 (f3),.int .i64 (f4),.int .i64 (f5),.int .i64 (f6),.int .i64 (f7),.int .i64 (f8),.int .i64 (f9)] → V.heap.size ≤ n6 → K_ { tmps:=#[.pointer (some ⟨g,0,none⟩),s1,s2,s3,s4,s5,.pointer (some ⟨gF,0,none⟩),s7,s8,s9,s10,.int .i64 (by_ : Int),s12,.pointer (some ⟨n6,0,none⟩),s14,s15,s16,s17,s18,s19,s20,s21,s22,s23,s24,s25,s26,s27,s28,s29,s30,s31,s32,s33,s34,s35,s36,s37,s38,s39,s40,s41,s42,s43,s44,s45,s46,s47,s48,s49,s50,s51,s52,s53,s54,s55,s56,s57,s58,s59,s60,s61,s62,s63,s64,s65,s66,s67,s68,s69,s70,s71,s72,s73,s74,s75,s76,s77,s78,s79,s80,s81,s82,s83,s84,s85,s86,s87,s88,s89,s90,s91,s92,s93,s94,.pointer (some ⟨g,0,none⟩),rv,.int .i64 (by_ : Int),.pointer (some ⟨gF,4,none⟩),.int .i64 (sd),.agg #[.string ⟨#[]⟩,.int .i64 (f1),.int .i64 (f2),.int .i64 (f3),.int .i64 (f4),.int .i64 (f5),.int .i64 (f6),.int .i64 (f7),.int .i64 (f8),.int .i64 (f9)],s101,s102,s103,s104,s105,s106,s107,s108,s109,s110,s111,s112,s113,s114,s115,s116,s117,s118,s119,s120,s121,s122,s123,s124,s125,s126,s127,s128,s129,s130,s131,s132,s133,s134,s135,s136,s137,s138,s139,s140,s141,s142,s143,s144,s145,s146,s147,s148,s149,s150,s151,s152,s153,s154,s155,s156,s157,s158,s159,s160,s161,s162,s163,s164,s165,s166,s167,s168,s169,s170,s171,s172,s173,s174,s175,s176,s177,s178,s179,s180,s181,s182,s183,s184,s185,s186],defers:=[] } W1) :
  Go.Code.wp Tryz.prog (rg78 19) (Only K_) { tmps:=#[.pointer (some ⟨g,0,none⟩),s1,s2,s3,s4,s5,.pointer (some ⟨gF,0,none⟩),s7,s8,s9,s10,.int .i64 (by_ : Int),s12,s13,s14,s15,s16,s17,s18,s19,s20,s21,s22,s23,s24,s25,s26,s27,s28,s29,s30,s31,s32,s33,s34,s35,s36,s37,s38,s39,s40,s41,s42,s43,s44,s45,s46,s47,s48,s49,s50,s51,s52,s53,s54,s55,s56,s57,s58,s59,s60,s61,s62,s63,s64,s65,s66,s67,s68,s69,s70,s71,s72,s73,s74,s75,s76,s77,s78,s79,s80,s81,s82,s83,s84,s85,s86,s87,s88,s89,s90,s91,s92,s93,s94,s95,s96,s97,s98,s99,s100,s101,s102,s103,s104,s105,s106,s107,s108,s109,s110,s111,s112,s113,s114,s115,s116,s117,s118,s119,s120,s121,s122,s123,s124,s125,s126,s127,s128,s129,s130,s131,s132,s133,s134,s135,s136,s137,s138,s139,s140,s141,s142,s143,s144,s145,s146,s147,s148,s149,s150,s151,s152,s153,s154,s155,s156,s157,s158,s159,s160,s161,s162,s163,s164,s165,s166,s167,s168,s169,s170,s171,s172,s173,s174,s175,s176,s177,s178,s179,s180,s181,s182,s183,s184,s185,s186],defers:=[] } V:=by
 have HQ:=hide hQ;clear hQ
 conv => arg 2;whnf
 refine wp_region_inv2 (fun Lb A W => ∃ (u0 u1 u2 u3 u4 u5 u6 u7 : Bool) (n6 : Nat) (rv : Value),Lb = #[u0,u1,u2,u3,u4,u5,u6,u7] ∧ A = ({ tmps:=#[.pointer (some ⟨g,0,none⟩),s1,s2,s3,s4,s5,.pointer (some ⟨gF,0,none⟩),s7,s8,s9,s10,.int .i64 (by_ : Int),s12,(bif u6 then .pointer (some ⟨n6,0,none⟩) else s13),s14,s15,s16,s17,s18,s19,s20,s21,s22,s23,s24,s25,s26,s27,s28,s29,s30,s31,s32,s33,s34,s35,s36,s37,s38,s39,s40,s41,s42,s43,s44,s45,s46,s47,s48,s49,s50,s51,s52,s53,s54,s55,s56,s57,s58,s59,s60,s61,s62,s63,s64,s65,s66,s67,s68,s69,s70,s71,s72,s73,s74,s75,s76,s77,s78,s79,s80,s81,s82,s83,s84,s85,s86,s87,s88,s89,s90,s91,s92,s93,s94,(bif u0 then .pointer (some ⟨g,0,none⟩) else s95),(bif u1 then rv else s96),(bif u2 then .int .i64 (by_ : Int) else s97),(bif u3 then .pointer (some ⟨gF,4,none⟩) else s98),(bif u4 then .int .i64 (sd) else s99),(bif u5 then .agg #[.string ⟨#[]⟩,.int .i64 (f1),.int .i64 (f2),.int .i64 (f3),.int .i64 (f4),.int .i64 (f5),.int .i64 (f6),.int .i64 (f7),.int .i64 (f8),.int .i64 (f9)] else s100),s101,s102,s103,s104,s105,s106,s107,s108,s109,s110,s111,s112,s113,s114,s115,s116,s117,s118,s119,s120,s121,s122,s123,s124,s125,s126,s127,s128,s129,s130,s131,s132,s133,s134,s135,s136,s137,s138,s139,s140,s141,s142,s143,s144,s145,s146,s147,s148,s149,s150,s151,s152,s153,s154,s155,s156,s157,s158,s159,s160,s161,s162,s163,s164,s165,s166,s167,s168,s169,s170,s171,s172,s173,s174,s175,s176,s177,s178,s179,s180,s181,s182,s183,s184,s185,s186],defers:=[] } : Act) ∧ Below V.heap.size V W ∧ (u6 = true → vb W n6 43 (bif u7 then [.string ⟨#[]⟩,.int .i64 (f1),.int .i64 (f2),.int .i64 (f3),.int .i64 (f4),.int .i64 (f5),.int .i64 (f6),.int .i64 (f7),.int .i64 (f8),.int .i64 (f9)] else [.string ⟨#[]⟩,.int .i64 (0),.int .i64 (0),.int .i64 (0),.int .i64 (0),.int .i64 (0),.int .i64 (0),.int .i64 (0),.int .i64 (0),.int .i64 (0)]) ∧ V.heap.size ≤ n6) ∧ (u1 = true → u7 = false → Tl_ W rv) ∧ (u7 = true → u0 = true ∧ u1 = true ∧ u2 = true ∧ u3 = true ∧ u4 = true ∧ u5 = true ∧ u6 = true)) (by kernel_rfl) (by kernel_rfl) ?h0 ?hstep ?hend
 case h0 =>
  exact ⟨false,false,false,false,false,false,false,false,0,undef,rfl,rfl,Below.drew (bfl _ _),zf,zf,zf⟩
 case hstep =>
  intro Lb A W hI;obtain ⟨u0,u1,u2,u3,u4,hI⟩:=hI;obtain ⟨u5,u6,u7,n6,rv,hI⟩:=hI;obtain ⟨hLb,hI⟩:=hI;obtain ⟨hA,hI⟩:=hI;obtain ⟨kB,hI⟩:=hI;obtain ⟨k6,hI⟩:=hI;obtain ⟨kx1,hI⟩:=hI;have kF:=hI;clear hI;subst hLb;subst hA;replace kB:=hide kB;replace k6:=hide k6;replace kx1:=hide kx1;replace kF:=hide kF;refine ⟨?_,?_,?_,?_,?_,?_,?_,?_,trivial⟩
  ·intro h0 hd K hK
   have z : u0 = false:=h0;have z7_ : u7 = false:=znb fun hu => z.symm.trans ((zu kF hu).1)
   subst z7_;subst z;clear h0 hd;rw [if_pos (by rfl)];go_simp;exact zu hK _ _ ⟨true,u1,u2,u3,u4,u5,u6,false,n6,rv,rfl,rfl,zu kB,zu k6,zu kx1,zf⟩
  ·intro h0 hd K hK
   have z : u1 = false:=h0;have z7_ : u7 = false:=znb fun hu => z.symm.trans ((zu kF hu).2.1)
   obtain ⟨rfl⟩ : u0 = true:=by simp [Region.binds] at hd;simp [hd]
   subst z7_;subst z;clear h0 hd;rw [if_pos (by rfl)];go_simp;refine (zu HF1 W (zu kB)).mono ?_;rintro e w8 ⟨⟨r_,rfl,hr_⟩,hb8⟩;exact zu hK _ _ ⟨true,true,u2,u3,u4,u5,u6,false,n6,r_,rfl,rfl,bc (zu kB) hb8,(fun h => ⟨(zu k6 h).1.bel hb8,(zu k6 h).2⟩),(fun _ _ => hr_),zf⟩
  ·intro h0 hd K hK
   have z : u2 = false:=h0;have z7_ : u7 = false:=znb fun hu => z.symm.trans ((zu kF hu).2.2.1)
   subst z7_;subst z;clear h0 hd;rw [if_pos (by rfl)];go_simp;exact zu hK _ _ ⟨u0,u1,true,u3,u4,u5,u6,false,n6,rv,rfl,rfl,zu kB,zu k6,zu kx1,zf⟩
  ·intro h0 hd K hK
   have z : u3 = false:=h0;have z7_ : u7 = false:=znb fun hu => z.symm.trans ((zu kF hu).2.2.2.1)
   subst z7_;subst z;clear h0 hd;rw [if_pos (by rfl)];go_simp;exact zu hK _ _ ⟨u0,u1,u2,true,u4,u5,u6,false,n6,rv,rfl,rfl,zu kB,zu k6,zu kx1,zf⟩
  ·intro h0 hd K hK
   have z : u4 = false:=h0;have z7_ : u7 = false:=znb fun hu => z.symm.trans ((zu kF hu).2.2.2.2.1)
   obtain ⟨rfl⟩ : u3 = true:=by simp [Region.binds] at hd;simp [hd]
   subst z7_;subst z;clear h0 hd;rw [if_pos (by rfl)];have c0:=keep1 (zu kB) (zu HSD);go_simp;exact zu hK _ _ ⟨u0,u1,u2,true,true,u5,u6,false,n6,rv,rfl,rfl,zu kB,zu k6,zu kx1,zf⟩
  ·intro h0 hd K hK
   have z : u5 = false:=h0;have z7_ : u7 = false:=znb fun hu => z.symm.trans ((zu kF hu).2.2.2.2.2.1)
   obtain ⟨rfl,rfl,rfl⟩ : u1 = true ∧ u2 = true ∧ u4 = true:=by simp [Region.binds] at hd;simp [hd]
   subst z7_;subst z;clear h0 hd;rw [if_pos (by rfl)];go_simp;refine (zu HF5 _ W (zu kB) (zu kx1 rfl rfl)).mono ?_;rintro e w8 ⟨rfl,hb8⟩;exact zu hK _ _ ⟨u0,true,true,u3,true,true,u6,false,n6,rv,rfl,rfl,bc (zu kB) hb8,(fun h => ⟨(zu k6 h).1.bel hb8,(zu k6 h).2⟩),(fun h h2 => hkp (zu kx1 h h2) hb8),zf⟩
  ·intro h0 hd K hK
   have z : u6 = false:=h0;have z7_ : u7 = false:=znb fun hu => z.symm.trans ((zu kF hu).2.2.2.2.2.2)
   subst z7_;subst z;clear h0 hd;rw [if_pos (by rfl)];go_simp;exact zu hK _ _ ⟨u0,u1,u2,u3,u4,u5,true,false,W.heap.size,rv,rfl,rfl,ba (zu kB) _,(fun _ => ⟨vb_new W 43 _ _ rfl,(zu kB).size⟩),(fun h h2 => hkp (zu kx1 h h2) (ba (bfl _ _) _)),zf⟩
  ·intro h0 hd K hK
   have z : u7 = false:=h0
   have zd0 : u0 = true ∧ u1 = true ∧ u2 = true ∧ u3 = true ∧ u4 = true ∧ u5 = true ∧ u6 = true:=by
    simp [Region.binds] at hd;simp [hd]
   have zd : u0 = true ∧ u1 = true ∧ u2 = true ∧ u3 = true ∧ u4 = true ∧ u5 = true ∧ u6 = true:=⟨zd0.1,zd0.2.1,zd0.2.2.1,zd0.2.2.2.1,zd0.2.2.2.2.1,zd0.2.2.2.2.2.1,zd0.2.2.2.2.2.2⟩
   obtain ⟨rfl,rfl,rfl,rfl,rfl,rfl,rfl⟩:=zd;subst z;clear h0 hd;rw [if_pos (by rfl)];have v1:=(zu k6 rfl).1;have g9:=(zu k6 rfl).2;have fz:=v1.frozen;have q0:=v1.cell (m:=0) rfl;have q1:=v1.cell (m:=1) rfl;have q2:=v1.cell (m:=2) rfl;have q3:=v1.cell (m:=3) rfl;have q4:=v1.cell (m:=4) rfl;have q5:=v1.cell (m:=5) rfl;have q6:=v1.cell (m:=6) rfl;have q7:=v1.cell (m:=7) rfl;have q8:=v1.cell (m:=8) rfl;have q9:=v1.cell (m:=9) rfl;have HV1:=hide v1;clear v1;go_simp
   exact zu hK _ _ ⟨true,true,true,true,true,true,true,true,n6,rv,rfl,rfl,(((((((((((((((((((((zu kB)).setCell (p:=⟨n6,0,none⟩) g9 _)).setCell (p:=⟨n6,1,none⟩) g9 _)).setCell (p:=⟨n6,2,none⟩) g9 _)).setCell (p:=⟨n6,3,none⟩) g9 _)).setCell (p:=⟨n6,4,none⟩) g9 _)).setCell (p:=⟨n6,5,none⟩) g9 _)).setCell (p:=⟨n6,6,none⟩) g9 _)).setCell (p:=⟨n6,7,none⟩) g9 _)).setCell (p:=⟨n6,8,none⟩) g9 _)).setCell (p:=⟨n6,9,none⟩) g9 _),(fun _ => ⟨(((((((((((zu HV1).set 0 _).set 1 _).set 2 _).set 3 _).set 4 _).set 5 _).set 6 _).set 7 _).set 8 _).set 9 _),g9⟩),(fun _ => zt),(fun _ => ⟨rfl,rfl,rfl,rfl,rfl,rfl,rfl⟩)⟩
 case hend =>
  intro Lb A W hI;obtain ⟨u0,u1,u2,u3,u4,hI⟩:=hI;obtain ⟨u5,u6,u7,n6,rv,hI⟩:=hI;obtain ⟨hLb,hI⟩:=hI;obtain ⟨hA,hI⟩:=hI;obtain ⟨kB,hI⟩:=hI;obtain ⟨k6,hI⟩:=hI;obtain ⟨kx1,hI⟩:=hI;have kF:=hI;clear hI;subst hLb;subst hA;intro hL
  have hl : u0 = true ∧ u1 = true ∧ u2 = true ∧ u3 = true ∧ u4 = true ∧ u5 = true ∧ u6 = true ∧ u7 = true:=by
   have h2:=congrArg Array.toList hL
   simpa [List.replicate] using h2
  obtain ⟨rfl,rfl,rfl,rfl,rfl,rfl,rfl,rfl⟩:=hl;exact zu HQ n6 rv W kB (k6 rfl).1 (k6 rfl).2
def StAt (w : World) (u : Option Addr) (l : List ByteArray) : Prop:=l ≠ [] → ∃ g o,u = some ⟨g,o,none⟩ ∧ g < w.heap.size ∧ ∀ (i : Nat) (s : ByteArray),l[i]? = some s → w.cell? ⟨g,o + i,none⟩ = some (.string s)
theorem StAt.bel {w w' : World} {u : Option Addr} {l : List ByteArray} (h : StAt w u l) (hb : Below w.heap.size w w') : StAt w' u l:=by
 intro h0;obtain ⟨g,o,rfl,hg,hc⟩:=h h0;exact ⟨g,o,rfl,Nat.lt_of_lt_of_le hg hb.size,fun i s hi => (hb.cell (p:=⟨g,_,none⟩) hg).trans (hc i s hi)⟩
theorem SRow.stAt {w : World} {B n c : Nat} {u : Option Addr} {l : List ByteArray} (h : SRow w B (.slice u n c) l) : n = l.length ∧ StAt w u l:=by
 obtain ⟨u9,c9,e9,_,_,h9⟩:=own_form h
 injection e9 with a1 a2 a3
 subst a1;refine ⟨a2,fun h0 => ?_⟩;obtain ⟨g,rfl,_,hg,hc⟩:=h9 (by intro e;exact h0 (List.eq_nil_of_length_eq_zero e));exact ⟨g,0,rfl,hg,fun i s hi => by rw [Nat.zero_add];apply hc;simp [strs,hi]⟩
theorem st_same (u v : Option Addr) (n cu cv : Nat) (l : List ByteArray) (w : World) (hl : l.length = n) (hn : n ≤ 1048576) (hu : StAt w u l) (hv : StAt w v l) :
  Calls Tryz.prog 16 #[.slice u n cu,.slice v n cv] w fun e w' => e = .returned (.bool true) ∧ Below w.heap.size w w':=by
 have HU:=hide hu;have HV:=hide hv;have HL:=hide hl;clear hu hv hl;go_enter Tryz.func16,Tryz.ntmps16;go_wp2
 go_loopw [5] (fun s W => ∃ i : Nat,s = .int .i64 (i : Int) ∧ i ≤ n ∧ Below w.heap.size w W) (fun s _ => n - (intOf s).toNat)
 case atStart => exact ⟨0,rfl,Nat.zero_le _,bfl _ _⟩
 case round =>
  obtain ⟨i,rfl,hi,hw⟩:=hrel;have HW:=hide hw
  by_cases h : i < n
  ·have i1 : (i : Int) < (n : Int):=by omega
   have i0 : (0 : Int) ≤ (i : Int):=Int.natCast_nonneg _;have iz : decide ((i : Int) < (n : Int)) = true:=dt i1;obtain ⟨s,hx⟩:=get_some (zu HL) h;have hne : l ≠ []:=by intro e;subst e;cases hx
   obtain ⟨g,o,rfl,_,hc⟩:=((zu HU).bel hw) hne;obtain ⟨g2,o2,rfl,_,hc2⟩:=((zu HV).bel hw) hne;have k0:=hc i s hx;have l0:=hc2 i s hx;clear hx hne hc hc2 hw;go_wp2_with fail
   go_quiet (fail)
   go_wp2_with fail;go_roundw
   case rel => exact ⟨i + 1,by simp,h,(zu HW).trans ⟨rfl,rfl,rfl,Nat.le_refl _,fun _ _ => rfl⟩⟩
   case measure => simp only [intOf];omega
  ·have i1 : ¬ (i : Int) < (n : Int):=by omega
   have iz : decide ((i : Int) < (n : Int)) = false:=df i1;clear hw;go_wp2_with fail;go_ret;exact ⟨rfl,zu HW⟩
theorem ld_any (W : World) (g o n : Nat) (L : List Value) (hl : L.length = n) (h : ∀ (j : Nat) (v : Value),L[j]? = some v → W.cell? ⟨g,o + j,none⟩ = some v) : (loadCellsFrom ⟨g,o,none⟩ 0 n #[]).run Tryz.prog W = .ok L.toArray W:=by
 subst hl;have:=run_loadCells_list (P:=Tryz.prog) W ⟨g,o,none⟩ L (fun j v hv => by rw [add_none];exact h j v hv)
 simpa [loadCells] using this
structure Fl (F : Array Value) (f : Ft) : Prop where
 v : ftv f = .agg F
 l : F.toList = ftc f
theorem fl_ex (f : Ft) : ∃ F,Fl F f:=⟨(ftc f).toArray,rfl,rfl⟩
theorem Fl.size {F : Array Value} {f : Ft} (h : Fl F f) : F.size = 15:=by rw [← Array.length_toList,h.l];rfl
def ab (W : World) (g t : Nat) (A : Array Value) : Prop:=W.heap[g]? = some (.cells A t (0,0))
theorem ab.lt {W : World} {g t : Nat} {A : Array Value} (h : ab W g t A) : g < W.heap.size:=(Array.getElem?_eq_some_iff.1 h).1
theorem ab.bel {w W : World} {g t : Nat} {A : Array Value} (h : ab w g t A) (hb : Below w.heap.size w W) : ab W g t A:=(hb.block g h.lt).trans h
theorem ab_new (W : World) (t : Nat) (A : Array Value) (g : Nat) (hg : g = W.heap.size) : ab (W.alloc (.cells A t)) g t A:=by
 subst hg;exact heap_alloc_last W _
theorem ab.cell {W : World} {g t : Nat} {A : Array Value} (h : ab W g t A) {j : Nat} {v : Value} (hv : A.toList[j]? = some v) : W.cell? ⟨g,j,none⟩ = some v:=by
 simp only [World.cell?];rw [h]
 simpa using hv
theorem Fl.load {F : Array Value} {f : Ft} (h : Fl F f) {W : World} {g o : Nat} (hc : ∀ (j : Nat) (v : Value),(ftc f)[j]? = some v → W.cell? ⟨g,o + j,none⟩ = some v) : (loadVar 75 ⟨g,o,none⟩).run Tryz.prog W = .ok (.agg F) W:=by
 have:=ld_any W g o 15 (ftc f) rfl hc;rw [← h.l] at this;simp only [loadVar,loadCells,Tryz.isAgg75,Tryz.sizeOf75,Sem.run_bind,Sem.run_pure,Result.andThen,if_true,this]
theorem Fl.load0 {F : Array Value} {f : Ft} (h : Fl F f) {W : World} {g t : Nat} (hb : ab W g t F) : (loadVar 75 ⟨g,0,none⟩).run Tryz.prog W = .ok (.agg F) W :=
 h.load fun j v hv => by rw [Nat.zero_add];exact hb.cell (by rw [h.l];exact hv)
theorem wpl_loadAt {P : Program} {ops : Array Oper} {rest : List Oper} {o : Oper} {a : Act} {w : World} {Q : Exit → Act → World → Prop} (hgd : o.guard = none) (ty : TypeId) (x : Operand) (ho : o.op = .load ty x)
  (ad : Addr) (hx : a.eval x = .pointer (some ad)) (v : Value) (hrun : (loadVar ty ad).run P w = .ok v w) (h : wpList P ops Q rest (a.put o.dst v) w) : wpList P ops Q (o :: rest) a w:=by
 refine wpList_plain hgd fun K hK => ?_
 unfold Oper.wp;simp only [execOp,ho,Instr.loadAt,Instr.sureAddr,hx,Sem.run_bind,Sem.run_pure,Result.andThen_ok,hrun];exact hK _ _ h
theorem wpl_putNew {P : Program} {ops : Array Oper} {rest : List Oper} {o : Oper} {a : Act} {Q : Exit → Act → World → Prop} (hgd : o.guard = none) (ty : TypeId) (x y : Operand) (ho : o.op = .store ty x y)
  (W : World) (old A : Array Value) (t : TypeId) (hx : a.eval x = .pointer (some ⟨W.heap.size,0,none⟩)) (hy : a.eval y = .agg A) (hi : (P.info? ty).map (·.size) = some A.size) (hold : old.size = A.size) (h1 : A.all (·.oneCell') = true)
  (h : wpList P ops Q rest (a.put o.dst undef) (W.alloc (.cells A t))) : wpList P ops Q (o :: rest) a (W.alloc (.cells old t)):=by
 refine wpl_storeRowA hgd ty x y ho W.heap.size A hx hy t old (heap_alloc_last W _) hi hold h1 ?_;rw [World.setRow_alloc_new];exact h
theorem ftc_one (f : Ft) : ∀ v ∈ ftc f,v.oneCell' = true:=by
 intro v hv;unfold ftc at hv;simp only [List.mem_cons,List.not_mem_nil,or_false] at hv
 rcases hv with rfl | rfl | rfl | rfl | rfl | rfl | rfl | rfl | rfl | rfl | rfl | rfl | rfl | rfl | rfl <;> rfl
theorem Fl.one {F : Array Value} {f : Ft} (h : Fl F f) : F.all (·.oneCell') = true:=by
 rw [← Array.all_toList,List.all_eq_true,h.l];exact ftc_one f
theorem size75 : (Tryz.prog.info? 75).map (·.size) = some 15:=by kernel_rfl
theorem Fl.info {F : Array Value} {f : Ft} (h : Fl F f) : (Tryz.prog.info? 75).map (·.size) = some F.size:=by rw [h.size];exact size75
end Go.Proofs.YtkiplmabjeadgaaGreat
