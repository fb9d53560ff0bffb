/- Statements of the program's squares around a cell that draw their order. -/
import Derived.Test.YtkiplmabjeadgaaGreatRunesR
import Derived.Test.YtkiplmabjeadgaaGreatBdMathR
import Derived.Test.YtkiplmabjeadgaaGreatBpR3R
namespace Go.Proofs.YtkiplmabjeadgaaGreat
set_option maxRecDepth 100000
set_option maxHeartbeats 16000000
open Go.ChangeShapes Go.WideShapes Go.ChangeAt Go.RowKit
set_option linter.unusedVariables false
set_option linter.unusedSimpArgs false
attribute [local go_sem] Oper.semAt_some
theorem sa5 {s0 s1 s2 s3 s5 s6 s7 s9 s10 s11 s12 s13 s14 s15 s16 s17 s18 s19 s20 s21 s22 s23 s24 s25 s26 s27 s28 s29 s30 s31 s32 s33 s34 s35 s36 s37 s38 s39 s40 s41 s42 s43 s44 s45 s46 s47 s48 s49 s50 : Value} {bp s : Nat} {x y z t0 t1 t2 r0 r1 r2 : Int} {V : World} {K_ : Act → World → Prop}
  (HP0 : Hid (V.cell? ⟨bp,0,none⟩ = some (.int .i64 (x)))) (HP1 : Hid (V.cell? ⟨bp,1,none⟩ = some (.int .i64 (y)))) (HP2 : Hid (V.cell? ⟨bp,2,none⟩ = some (.int .i64 (z))))
  (HF2 : Hid (∀ Xw,Below V.heap.size V Xw → Calls Tryz.prog 133 #[.int .i64 (s : Int)] Xw fun e w' => e = .returned (.agg #[.int .i64 (t0),.int .i64 (t1),.int .i64 (t2)]) ∧ Below Xw.heap.size Xw w'))
  (HF3 : Hid (∀ Xw,Below V.heap.size V Xw → Calls Tryz.prog 132 #[.agg #[.int .i64 (x),.int .i64 (y),.int .i64 (z)],.agg #[.int .i64 (t0),.int .i64 (t1),.int .i64 (t2)]] Xw fun e w' => e = .returned (.agg #[.int .i64 (r0),.int .i64 (r1),.int .i64 (r2)]) ∧ Below Xw.heap.size Xw w'))
  (hQ : ∀ (n4 : Nat)  (W1 : World),Below V.heap.size V W1 → vb W1 n4 156 [.int .i64 (r0),.int .i64 (r1),.int .i64 (r2)] → V.heap.size ≤ n4 → K_ { tmps:=#[s0,s1,s2,s3,.pointer (some ⟨bp,0,none⟩),s5,s6,s7,.int .i64 (s : Int),.pointer (some ⟨n4,0,none⟩),s10,s11,s12,s13,s14,s15,s16,s17,s18,.agg #[.int .i64 (x),.int .i64 (y),.int .i64 (z)],.int .i64 (s : Int),.agg #[.int .i64 (t0),.int .i64 (t1),.int .i64 (t2)],.agg #[.int .i64 (r0),.int .i64 (r1),.int .i64 (r2)],s23,s24,s25,s26,s27,s28,s29,s30,s31,s32,s33,s34,s35,s36,s37,s38,s39,s40,s41,s42,s43,s44,s45,s46,s47,s48,s49,s50],defers:=[] } W1) :
  Go.Code.wp Tryz.prog (rg120 5) (Only K_) { tmps:=#[s0,s1,s2,s3,.pointer (some ⟨bp,0,none⟩),s5,s6,s7,.int .i64 (s : Int),s9,s10,s11,s12,s13,s14,s15,s16,s17,s18,s19,s20,s21,s22,s23,s24,s25,s26,s27,s28,s29,s30,s31,s32,s33,s34,s35,s36,s37,s38,s39,s40,s41,s42,s43,s44,s45,s46,s47,s48,s49,s50],defers:=[] } V:=by
 have HQ:=hide hQ;clear hQ
 conv => arg 2;whnf
 refine wp_region_inv2 (fun Lb A W => ∃ (u0 u1 u2 u3 u4 u5 : Bool) (n4 : Nat),Lb = #[u0,u1,u2,u3,u4,u5] ∧ A = ({ tmps:=#[s0,s1,s2,s3,.pointer (some ⟨bp,0,none⟩),s5,s6,s7,.int .i64 (s : Int),(bif u4 then .pointer (some ⟨n4,0,none⟩) else s9),s10,s11,s12,s13,s14,s15,s16,s17,s18,(bif u0 then .agg #[.int .i64 (x),.int .i64 (y),.int .i64 (z)] else s19),(bif u1 then .int .i64 (s : Int) else s20),(bif u2 then .agg #[.int .i64 (t0),.int .i64 (t1),.int .i64 (t2)] else s21),(bif u3 then .agg #[.int .i64 (r0),.int .i64 (r1),.int .i64 (r2)] else s22),s23,s24,s25,s26,s27,s28,s29,s30,s31,s32,s33,s34,s35,s36,s37,s38,s39,s40,s41,s42,s43,s44,s45,s46,s47,s48,s49,s50],defers:=[] } : Act) ∧ Below V.heap.size V W ∧ (u4 = true → vb W n4 156 (bif u5 then [.int .i64 (r0),.int .i64 (r1),.int .i64 (r2)] else [.int .i64 (0),.int .i64 (0),.int .i64 (0)]) ∧ V.heap.size ≤ n4) ∧ (u5 = true → u0 = true ∧ u1 = true ∧ u2 = true ∧ u3 = true ∧ u4 = true)) (by kernel_rfl) (by kernel_rfl) ?h0 ?hstep ?hend
 case h0 =>
  exact ⟨false,false,false,false,false,false,0,rfl,rfl,Below.drew (bfl _ _),zf,zf⟩
 case hstep =>
  intro Lb A W hI;obtain ⟨u0,u1,u2,u3,u4,hI⟩:=hI;obtain ⟨u5,n4,hI⟩:=hI;obtain ⟨hLb,hI⟩:=hI;obtain ⟨hA,hI⟩:=hI;obtain ⟨kB,hI⟩:=hI;obtain ⟨k4,hI⟩:=hI;have kF:=hI;clear hI;subst hLb;subst hA;replace kB:=hide kB;replace k4:=hide k4;replace kF:=hide kF;refine ⟨?_,?_,?_,?_,?_,?_,trivial⟩
  ·intro h0 hd K hK
   have z : u0 = false:=h0;have z5_ : u5 = false:=znb fun hu => z.symm.trans ((zu kF hu).1)
   subst z5_;subst z;clear h0 hd;rw [if_pos (by rfl)];have c0:=keep1 (zu kB) (zu HP0);have c1:=keep1 (zu kB) (zu HP1);have c2:=keep1 (zu kB) (zu HP2);go_simp;exact zu hK _ _ ⟨true,u1,u2,u3,u4,false,n4,rfl,rfl,zu kB,zu k4,zf⟩
  ·intro h0 hd K hK
   have z : u1 = false:=h0;have z5_ : u5 = false:=znb fun hu => z.symm.trans ((zu kF hu).2.1)
   subst z5_;subst z;clear h0 hd;rw [if_pos (by rfl)];go_simp;exact zu hK _ _ ⟨u0,true,u2,u3,u4,false,n4,rfl,rfl,zu kB,zu k4,zf⟩
  ·intro h0 hd K hK
   have z : u2 = false:=h0;have z5_ : u5 = false:=znb fun hu => z.symm.trans ((zu kF hu).2.2.1)
   obtain ⟨rfl⟩ : u1 = true:=by simp [Region.binds] at hd;simp [hd]
   subst z5_;subst z;clear h0 hd;rw [if_pos (by rfl)];go_simp;refine (zu HF2 W (zu kB)).mono ?_;rintro e w8 ⟨rfl,hb8⟩;exact zu hK _ _ ⟨u0,true,true,u3,u4,false,n4,rfl,rfl,bc (zu kB) hb8,(fun h => ⟨(zu k4 h).1.bel hb8,(zu k4 h).2⟩),zf⟩
  ·intro h0 hd K hK
   have z : u3 = false:=h0;have z5_ : u5 = false:=znb fun hu => z.symm.trans ((zu kF hu).2.2.2.1)
   obtain ⟨rfl,rfl⟩ : u0 = true ∧ u2 = true:=by simp [Region.binds] at hd;simp [hd]
   subst z5_;subst z;clear h0 hd;rw [if_pos (by rfl)];go_simp;refine (zu HF3 W (zu kB)).mono ?_;rintro e w8 ⟨rfl,hb8⟩;exact zu hK _ _ ⟨true,u1,true,true,u4,false,n4,rfl,rfl,bc (zu kB) hb8,(fun h => ⟨(zu k4 h).1.bel hb8,(zu k4 h).2⟩),zf⟩
  ·intro h0 hd K hK
   have z : u4 = false:=h0;have z5_ : u5 = false:=znb fun hu => z.symm.trans ((zu kF hu).2.2.2.2)
   subst z5_;subst z;clear h0 hd;rw [if_pos (by rfl)];go_simp;exact zu hK _ _ ⟨u0,u1,u2,u3,true,false,W.heap.size,rfl,rfl,ba (zu kB) _,(fun _ => ⟨vb_new W 156 _ _ rfl,(zu kB).size⟩),zf⟩
  ·intro h0 hd K hK
   have z : u5 = false:=h0
   have zd0 : u0 = true ∧ u1 = true ∧ u2 = true ∧ u3 = true ∧ u4 = true:=by
    simp [Region.binds] at hd;simp [hd]
   have zd : u0 = true ∧ u1 = true ∧ u2 = true ∧ u3 = true ∧ u4 = true:=⟨zd0.1,zd0.2.1,zd0.2.2.1,zd0.2.2.2.1,zd0.2.2.2.2⟩
   obtain ⟨rfl,rfl,rfl,rfl,rfl⟩:=zd;subst z;clear h0 hd;rw [if_pos (by rfl)];have v1:=(zu k4 rfl).1;have g9:=(zu k4 rfl).2;have fz:=v1.frozen;have q0:=v1.cell (m:=0) rfl;have q1:=v1.cell (m:=1) rfl;have q2:=v1.cell (m:=2) rfl;have HV1:=hide v1;clear v1;go_simp;exact zu hK _ _ ⟨true,true,true,true,true,true,n4,rfl,rfl,(((((((zu kB)).setCell (p:=⟨n4,0,none⟩) g9 _)).setCell (p:=⟨n4,1,none⟩) g9 _)).setCell (p:=⟨n4,2,none⟩) g9 _),(fun _ => ⟨((((zu HV1).set 0 _).set 1 _).set 2 _),g9⟩),(fun _ => ⟨rfl,rfl,rfl,rfl,rfl⟩)⟩
 case hend =>
  intro Lb A W hI;obtain ⟨u0,u1,u2,u3,u4,hI⟩:=hI;obtain ⟨u5,n4,hI⟩:=hI;obtain ⟨hLb,hI⟩:=hI;obtain ⟨hA,hI⟩:=hI;obtain ⟨kB,hI⟩:=hI;obtain ⟨k4,hI⟩:=hI;have kF:=hI;clear hI;subst hLb;subst hA;intro hL
  have hl : u0 = true ∧ u1 = true ∧ u2 = true ∧ u3 = true ∧ u4 = true ∧ u5 = true:=by
   have h2:=congrArg Array.toList hL
   simpa [List.replicate] using h2
  obtain ⟨rfl,rfl,rfl,rfl,rfl,rfl⟩:=hl;exact zu HQ n4  W kB (k4 rfl).1 (k4 rfl).2
theorem sa10 {s0 s1 s2 s3 s4 s5 s6 s7 s9 s12 s13 s14 s15 s16 s17 s18 s19 s20 s21 s22 s23 s24 s25 s26 s27 s28 s29 s30 s31 s32 s33 s34 s35 s36 s37 s38 s39 s40 s41 s42 s43 s44 s45 s46 s47 s48 s49 s50 : Value} {s bo bw nb os : Nat} {V : World} {K_ : Act → World → Prop}
  (HB1 : Hid (V.cell? ⟨bo,1,none⟩ = some (.int .i64 (nb : Int)))) (hbO : bw < V.heap.size) {oo0 : Value} (HO0 : Hid (V.cell? ⟨bw,0,none⟩ = some oo0)) {oo1 : Value} (HO1 : Hid (V.cell? ⟨bw,1,none⟩ = some oo1)) (HOf : Hid (∀ o,V.frozen? ⟨bw,o,none⟩ = false))
  (HF3 : Hid (∀ Xw,Below V.heap.size V Xw → Calls Tryz.prog 158 #[.int .i64 (s : Int)] Xw fun e w' => e = .returned (.int .i64 (os : Int)) ∧ Below Xw.heap.size Xw w'))
  (hQ : ∀  (W1 W9 : World),W9 = ((W1.setCell ⟨bw,0,none⟩ (.int .i64 (nb : Int))).setCell ⟨bw,1,none⟩ (.int .i64 (os : Int))) → Below V.heap.size V W1 → K_ { tmps:=#[s0,s1,s2,s3,s4,s5,s6,s7,.int .i64 (s : Int),s9,.pointer (some ⟨bo,0,none⟩),.pointer (some ⟨bw,0,none⟩),s12,s13,s14,s15,s16,s17,s18,s19,s20,s21,s22,s23,s24,s25,s26,s27,s28,s29,s30,s31,s32,s33,s34,s35,s36,.pointer (some ⟨bo,1,none⟩),.int .i64 (nb : Int),.int .i64 (s : Int),.int .i64 (os : Int),.agg #[.int .i64 (nb : Int),.int .i64 (os : Int)],s42,s43,s44,s45,s46,s47,s48,s49,s50],defers:=[] } W9) :
  Go.Code.wp Tryz.prog (rg120 10) (Only K_) { tmps:=#[s0,s1,s2,s3,s4,s5,s6,s7,.int .i64 (s : Int),s9,.pointer (some ⟨bo,0,none⟩),.pointer (some ⟨bw,0,none⟩),s12,s13,s14,s15,s16,s17,s18,s19,s20,s21,s22,s23,s24,s25,s26,s27,s28,s29,s30,s31,s32,s33,s34,s35,s36,s37,s38,s39,s40,s41,s42,s43,s44,s45,s46,s47,s48,s49,s50],defers:=[] } V:=by
 have HQ:=hide hQ;clear hQ
 conv => arg 2;whnf
 refine wp_region_inv2 (fun Lb A W => ∃ (u0 u1 u2 u3 u4 u5 : Bool) (dm : Nat),Lb = #[u0,u1,u2,u3,u4,u5] ∧ A = ({ tmps:=#[s0,s1,s2,s3,s4,s5,s6,s7,.int .i64 (s : Int),s9,.pointer (some ⟨bo,0,none⟩),.pointer (some ⟨bw,0,none⟩),s12,s13,s14,s15,s16,s17,s18,s19,s20,s21,s22,s23,s24,s25,s26,s27,s28,s29,s30,s31,s32,s33,s34,s35,s36,(bif u0 then .pointer (some ⟨bo,1,none⟩) else s37),(bif u1 then .int .i64 (nb : Int) else s38),(bif u2 then .int .i64 (s : Int) else s39),(bif u3 then .int .i64 (os : Int) else s40),(bif u4 then .agg #[.int .i64 (nb : Int),.int .i64 (os : Int)] else s41),s42,s43,s44,s45,s46,s47,s48,s49,s50],defers:=[] } : Act) ∧ (u5 = false → Below V.heap.size V W) ∧ (u5 = true → ∃ W1,Below V.heap.size V W1 ∧ W = ((W1.setCell ⟨bw,0,none⟩ (.int .i64 (nb : Int))).setCell ⟨bw,1,none⟩ (.int .i64 (os : Int)))) ∧ (u5 = true → u0 = true ∧ u1 = true ∧ u2 = true ∧ u3 = true ∧ u4 = true)) (by kernel_rfl) (by kernel_rfl) ?h0 ?hstep ?hend
 case h0 =>
  exact ⟨false,false,false,false,false,false,0,rfl,rfl,(fun _ => Below.drew (bfl _ _)),zf,zf⟩
 case hstep =>
  intro Lb A W hI;obtain ⟨u0,u1,u2,u3,u4,hI⟩:=hI;obtain ⟨u5,dm,hI⟩:=hI;obtain ⟨hLb,hI⟩:=hI;obtain ⟨hA,hI⟩:=hI;obtain ⟨kB,hI⟩:=hI;obtain ⟨kZ,hI⟩:=hI;have kF:=hI;clear hI;subst hLb;subst hA;replace kB:=hide kB;replace kZ:=hide kZ;replace kF:=hide kF;refine ⟨?_,?_,?_,?_,?_,?_,trivial⟩
  ·intro h0 hd K hK
   have z : u0 = false:=h0;have z5_ : u5 = false:=znb fun hu => z.symm.trans ((zu kF hu).1)
   subst z5_;subst z;clear h0 hd;rw [if_pos (by rfl)];go_simp;exact zu hK _ _ ⟨true,u1,u2,u3,u4,false,dm,rfl,rfl,zu kB,zf,zf⟩
  ·intro h0 hd K hK
   have z : u1 = false:=h0;have z5_ : u5 = false:=znb fun hu => z.symm.trans ((zu kF hu).2.1)
   obtain ⟨rfl⟩ : u0 = true:=by simp [Region.binds] at hd;simp [hd]
   subst z5_;subst z;clear h0 hd;rw [if_pos (by rfl)];have c0:=keep1 (zu kB rfl) (zu HB1);go_simp;exact zu hK _ _ ⟨true,true,u2,u3,u4,false,dm,rfl,rfl,zu kB,zf,zf⟩
  ·intro h0 hd K hK
   have z : u2 = false:=h0;have z5_ : u5 = false:=znb fun hu => z.symm.trans ((zu kF hu).2.2.1)
   subst z5_;subst z;clear h0 hd;rw [if_pos (by rfl)];go_simp;exact zu hK _ _ ⟨u0,u1,true,u3,u4,false,dm,rfl,rfl,zu kB,zf,zf⟩
  ·intro h0 hd K hK
   have z : u3 = false:=h0;have z5_ : u5 = false:=znb fun hu => z.symm.trans ((zu kF hu).2.2.2.1)
   obtain ⟨rfl⟩ : u2 = true:=by simp [Region.binds] at hd;simp [hd]
   subst z5_;subst z;clear h0 hd;rw [if_pos (by rfl)];go_simp;refine (zu HF3 W (zu kB rfl)).mono ?_;rintro e w8 ⟨rfl,hb8⟩;exact zu hK _ _ ⟨u0,u1,true,true,u4,false,dm,rfl,rfl,(fun _ => bc (zu kB rfl) hb8),zf,zf⟩
  ·intro h0 hd K hK
   have z : u4 = false:=h0;have z5_ : u5 = false:=znb fun hu => z.symm.trans ((zu kF hu).2.2.2.2)
   obtain ⟨rfl,rfl⟩ : u1 = true ∧ u3 = true:=by simp [Region.binds] at hd;simp [hd]
   subst z5_;subst z;clear h0 hd;rw [if_pos (by rfl)];go_simp;exact zu hK _ _ ⟨u0,true,u2,true,true,false,dm,rfl,rfl,zu kB,zf,zf⟩
  ·intro h0 hd K hK
   have z : u5 = false:=h0
   have zd0 : u0 = true ∧ u1 = true ∧ u2 = true ∧ u3 = true ∧ u4 = true:=by
    simp [Region.binds] at hd;simp [hd]
   have zd : u0 = true ∧ u1 = true ∧ u2 = true ∧ u3 = true ∧ u4 = true:=⟨zd0.1,zd0.2.1,zd0.2.2.1,zd0.2.2.2.1,zd0.2.2.2.2⟩
   obtain ⟨rfl,rfl,rfl,rfl,rfl⟩:=zd;subst z;clear h0 hd;rw [if_pos (by rfl)]
   have hB:=(zu kB rfl)
   have q0:=keep1 hB (zu HO0);have q1:=keep1 hB (zu HO1);have fz : ∀ o,W.frozen? ⟨bw,o,none⟩ = false:=fun o => keepz hB hbO (zu HOf o)
   have HBB:=hide hB;clear hB;go_simp;exact zu hK _ _ ⟨true,true,true,true,true,true,dm,rfl,rfl,zt,(fun _ => ⟨W,zu HBB,rfl⟩),(fun _ => ⟨rfl,rfl,rfl,rfl,rfl⟩)⟩
 case hend =>
  intro Lb A W hI;obtain ⟨u0,u1,u2,u3,u4,hI⟩:=hI;obtain ⟨u5,dm,hI⟩:=hI;obtain ⟨hLb,hI⟩:=hI;obtain ⟨hA,hI⟩:=hI;obtain ⟨kB,hI⟩:=hI;obtain ⟨kZ,hI⟩:=hI;have kF:=hI;clear hI;subst hLb;subst hA;intro hL
  have hl : u0 = true ∧ u1 = true ∧ u2 = true ∧ u3 = true ∧ u4 = true ∧ u5 = true:=by
   have h2:=congrArg Array.toList hL
   simpa [List.replicate] using h2
  obtain ⟨rfl,rfl,rfl,rfl,rfl,rfl⟩:=hl;obtain ⟨W1,hA,hZ⟩:=kZ rfl;exact zu HQ   W1 W hZ hA
theorem sa11 {s0 s1 s3 s5 s6 s7 s8 s10 s12 s13 s14 s15 s16 s17 s18 s19 s20 s21 s22 s23 s24 s25 s26 s27 s28 s29 s30 s31 s32 s33 s34 s35 s36 s37 s38 s39 s40 s41 s42 s43 s44 s45 s46 s47 s48 s49 s50 : Value} {l bw bp bq nb sd : Nat} {x y z x1 y1 z1 c0 c1 c2 c3 c4 c5 d0 d1 d2 d3 d4 d5 e0 e1 e2 e3 e4 e5 : Int} {Pst_ : Bool → World → Prop} {V : World} {K_ : Act → World → Prop}
  (HW0 : Hid (V.cell? ⟨bw,0,none⟩ = some (.int .i64 (nb : Int)))) (HW1 : Hid (V.cell? ⟨bw,1,none⟩ = some (.int .i64 (sd : Int)))) (HP0 : Hid (V.cell? ⟨bp,0,none⟩ = some (.int .i64 (x)))) (HP1 : Hid (V.cell? ⟨bp,1,none⟩ = some (.int .i64 (y)))) (HP2 : Hid (V.cell? ⟨bp,2,none⟩ = some (.int .i64 (z)))) (HG0 : Hid (V.cell? ⟨bq,0,none⟩ = some (.int .i64 (x1)))) (HG1 : Hid (V.cell? ⟨bq,1,none⟩ = some (.int .i64 (y1)))) (HG2 : Hid (V.cell? ⟨bq,2,none⟩ = some (.int .i64 (z1))))
  (HF3 : Hid (∀ Xw,Below V.heap.size V Xw → Calls Tryz.prog 159 #[.agg #[.int .i64 (x),.int .i64 (y),.int .i64 (z)]] Xw fun e w' => e = .returned (.agg #[.int .i64 (c0),.int .i64 (c1),.int .i64 (c2),.int .i64 (c3),.int .i64 (c4),.int .i64 (c5)]) ∧ Below Xw.heap.size Xw w'))
  (HF5 : Hid (∀ Xw,Below V.heap.size V Xw → Calls Tryz.prog 159 #[.agg #[.int .i64 (x1),.int .i64 (y1),.int .i64 (z1)]] Xw fun e w' => e = .returned (.agg #[.int .i64 (d0),.int .i64 (d1),.int .i64 (d2),.int .i64 (d3),.int .i64 (d4),.int .i64 (d5)]) ∧ Below Xw.heap.size Xw w'))
  (HF6 : Hid (∀ Xw,Below V.heap.size V Xw → Calls Tryz.prog 160 #[.agg #[.int .i64 (c0),.int .i64 (c1),.int .i64 (c2),.int .i64 (c3),.int .i64 (c4),.int .i64 (c5)],.agg #[.int .i64 (d0),.int .i64 (d1),.int .i64 (d2),.int .i64 (d3),.int .i64 (d4),.int .i64 (d5)]] Xw fun e w' => e = .returned (.agg #[.int .i64 (e0),.int .i64 (e1),.int .i64 (e2),.int .i64 (e3),.int .i64 (e4),.int .i64 (e5)]) ∧ Below Xw.heap.size Xw w'))
  (HF7 : Hid (∀ Xw,Below V.heap.size V Xw → YieldAt Fence.wide 0 Tryz.prog l #[.agg #[.int .i64 (nb : Int),.int .i64 (sd : Int)],.agg #[.int .i64 (e0),.int .i64 (e1),.int .i64 (e2),.int .i64 (e3),.int .i64 (e4),.int .i64 (e5)]] Xw fun e w' => ∃ r,e = .returned (.bool r) ∧ Pst_ r w'))
  (hQ : ∀ (ry : Bool) W9,Pst_ ry W9 → K_ { tmps:=#[s0,s1,.func (.yield l) #[] #[],s3,.pointer (some ⟨bp,0,none⟩),s5,s6,s7,s8,.pointer (some ⟨bq,0,none⟩),s10,.pointer (some ⟨bw,0,none⟩),s12,s13,s14,s15,s16,s17,s18,s19,s20,s21,s22,s23,s24,s25,s26,s27,s28,s29,s30,s31,s32,s33,s34,s35,s36,s37,s38,s39,s40,s41,.func (.yield l) #[] #[],.agg #[.int .i64 (nb : Int),.int .i64 (sd : Int)],.agg #[.int .i64 (x),.int .i64 (y),.int .i64 (z)],.agg #[.int .i64 (c0),.int .i64 (c1),.int .i64 (c2),.int .i64 (c3),.int .i64 (c4),.int .i64 (c5)],.agg #[.int .i64 (x1),.int .i64 (y1),.int .i64 (z1)],.agg #[.int .i64 (d0),.int .i64 (d1),.int .i64 (d2),.int .i64 (d3),.int .i64 (d4),.int .i64 (d5)],.agg #[.int .i64 (e0),.int .i64 (e1),.int .i64 (e2),.int .i64 (e3),.int .i64 (e4),.int .i64 (e5)],.bool (ry),.bool (!ry)],defers:=[] } W9) :
  Go.Code.wpIn Fence.wide 0 Tryz.prog (rg120 11) (Only K_) { tmps:=#[s0,s1,.func (.yield l) #[] #[],s3,.pointer (some ⟨bp,0,none⟩),s5,s6,s7,s8,.pointer (some ⟨bq,0,none⟩),s10,.pointer (some ⟨bw,0,none⟩),s12,s13,s14,s15,s16,s17,s18,s19,s20,s21,s22,s23,s24,s25,s26,s27,s28,s29,s30,s31,s32,s33,s34,s35,s36,s37,s38,s39,s40,s41,s42,s43,s44,s45,s46,s47,s48,s49,s50],defers:=[] } V:=by
 have HQ:=hide hQ;clear hQ
 conv => arg 4;whnf
 refine wpIn_region_inv (fun Lb A W => ∃ (u0 u1 u2 u3 u4 u5 u6 u7 u8 : Bool) (ry : Bool),Lb = #[u0,u1,u2,u3,u4,u5,u6,u7,u8] ∧ A = ({ tmps:=#[s0,s1,.func (.yield l) #[] #[],s3,.pointer (some ⟨bp,0,none⟩),s5,s6,s7,s8,.pointer (some ⟨bq,0,none⟩),s10,.pointer (some ⟨bw,0,none⟩),s12,s13,s14,s15,s16,s17,s18,s19,s20,s21,s22,s23,s24,s25,s26,s27,s28,s29,s30,s31,s32,s33,s34,s35,s36,s37,s38,s39,s40,s41,(bif u0 then .func (.yield l) #[] #[] else s42),(bif u1 then .agg #[.int .i64 (nb : Int),.int .i64 (sd : Int)] else s43),(bif u2 then .agg #[.int .i64 (x),.int .i64 (y),.int .i64 (z)] else s44),(bif u3 then .agg #[.int .i64 (c0),.int .i64 (c1),.int .i64 (c2),.int .i64 (c3),.int .i64 (c4),.int .i64 (c5)] else s45),(bif u4 then .agg #[.int .i64 (x1),.int .i64 (y1),.int .i64 (z1)] else s46),(bif u5 then .agg #[.int .i64 (d0),.int .i64 (d1),.int .i64 (d2),.int .i64 (d3),.int .i64 (d4),.int .i64 (d5)] else s47),(bif u6 then .agg #[.int .i64 (e0),.int .i64 (e1),.int .i64 (e2),.int .i64 (e3),.int .i64 (e4),.int .i64 (e5)] else s48),(bif u7 then .bool (ry) else s49),(bif u8 then .bool (!ry) else s50)],defers:=[] } : Act) ∧ (u7 = false → Below V.heap.size V W) ∧ (u7 = true → Pst_ ry W) ∧ (u3 = true → u2 = true) ∧ (u5 = true → u4 = true ∧ u3 = true) ∧ (u6 = true → u3 = true ∧ u5 = true) ∧ (u7 = true → u0 = true ∧ u1 = true ∧ u6 = true) ∧ (u8 = true → u0 = true ∧ u1 = true ∧ u2 = true ∧ u3 = true ∧ u4 = true ∧ u5 = true ∧ u6 = true ∧ u7 = true)) (by kernel_rfl) (by kernel_rfl) ?h0 ?hstep ?hend
 case h0 =>
  exact ⟨false,false,false,false,false,false,false,false,false,false,rfl,rfl,(fun _ => Below.drew (bfl _ _)),zf,zf,zf,zf,zf,zf⟩
 case hstep =>
  intro Lb A W hI;obtain ⟨u0,u1,u2,u3,u4,hI⟩:=hI;obtain ⟨u5,u6,u7,u8,ry,hI⟩:=hI;obtain ⟨hLb,hI⟩:=hI;obtain ⟨hA,hI⟩:=hI;obtain ⟨kB,hI⟩:=hI;obtain ⟨kZ,hI⟩:=hI;obtain ⟨l3,hI⟩:=hI;obtain ⟨l5,hI⟩:=hI;obtain ⟨l6,hI⟩:=hI;obtain ⟨l7,hI⟩:=hI;have kF:=hI;clear hI;subst hLb;subst hA;replace kB:=hide kB;replace kZ:=hide kZ;replace l3:=hide l3;replace l5:=hide l5;replace l6:=hide l6;replace l7:=hide l7;replace kF:=hide kF;refine ⟨?_,?_,?_,?_,?_,?_,?_,?_,?_,trivial⟩
  ·intro h0 hd K hK
   have z : u0 = false:=h0;have z8_ : u8 = false:=znb fun hu => z.symm.trans ((zu kF hu).1)
   have z7_ : u7 = false:=znb fun hu => z.symm.trans ((zu l7 hu).1)
   subst z8_;subst z7_;subst z;clear h0 hd;rw [if_pos (by rfl)]
   (unfold Oper.wpIn;refine ⟨fun _ _ => trivial,?_⟩;go_simp)
   exact zu hK _ _ ⟨true,u1,u2,u3,u4,u5,u6,false,false,ry,rfl,rfl,zu kB,zf,zu l3,zu l5,zu l6,zf,zf⟩
  ·intro h0 hd K hK
   have z : u1 = false:=h0;have z8_ : u8 = false:=znb fun hu => z.symm.trans ((zu kF hu).2.1)
   have z7_ : u7 = false:=znb fun hu => z.symm.trans ((zu l7 hu).2.1)
   subst z8_;subst z7_;subst z;clear h0 hd;rw [if_pos (by rfl)];have c0:=keep1 (zu kB rfl) (zu HW0);have c1:=keep1 (zu kB rfl) (zu HW1)
   (unfold Oper.wpIn;refine ⟨fun _ _ => trivial,?_⟩;go_simp)
   exact zu hK _ _ ⟨u0,true,u2,u3,u4,u5,u6,false,false,ry,rfl,rfl,zu kB,zf,zu l3,zu l5,zu l6,zf,zf⟩
  ·intro h0 hd K hK
   have z : u2 = false:=h0;have z8_ : u8 = false:=znb fun hu => z.symm.trans ((zu kF hu).2.2.1)
   have z7_ : u7 = false:=znb fun hu => z.symm.trans ((zu l3 (zu l6 (zu l7 hu).2.2).1))
   subst z8_;subst z7_;subst z;clear h0 hd;rw [if_pos (by rfl)];have c0:=keep1 (zu kB rfl) (zu HP0);have c1:=keep1 (zu kB rfl) (zu HP1);have c2:=keep1 (zu kB rfl) (zu HP2)
   (unfold Oper.wpIn;refine ⟨fun _ _ => trivial,?_⟩;go_simp)
   exact zu hK _ _ ⟨u0,u1,true,u3,u4,u5,u6,false,false,ry,rfl,rfl,zu kB,zf,(fun h => rfl),zu l5,zu l6,zf,zf⟩
  ·intro h0 hd K hK
   have z : u3 = false:=h0;have z8_ : u8 = false:=znb fun hu => z.symm.trans ((zu kF hu).2.2.2.1)
   have z7_ : u7 = false:=znb fun hu => z.symm.trans ((zu l6 (zu l7 hu).2.2).1)
   obtain ⟨rfl⟩ : u2 = true:=by simp [Region.binds] at hd;simp [hd]
   subst z8_;subst z7_;subst z;clear h0 hd;rw [if_pos (by rfl)]
   (unfold Oper.wpIn;refine ⟨fun _ _ => trivial,?_⟩;go_simp)
   refine ⟨by first | rfl | trivial | (intro h;cases h),(callsIn_wide.2 (zu HF3 W (zu kB rfl))).mono ?_⟩;rintro e w8 ⟨rfl,hb8⟩;exact zu hK _ _ ⟨u0,u1,true,true,u4,u5,u6,false,false,ry,rfl,rfl,(fun _ => bc (zu kB rfl) hb8),zf,(fun _ => rfl),(fun h => ⟨(zu l5 h).1,rfl⟩),(fun h => ⟨rfl,(zu l6 h).2⟩),zf,zf⟩
  ·intro h0 hd K hK
   have z : u4 = false:=h0;have z8_ : u8 = false:=znb fun hu => z.symm.trans ((zu kF hu).2.2.2.2.1)
   have z7_ : u7 = false:=znb fun hu => z.symm.trans ((zu l5 (zu l6 (zu l7 hu).2.2).2).1)
   subst z8_;subst z7_;subst z;clear h0 hd;rw [if_pos (by rfl)];have c0:=keep1 (zu kB rfl) (zu HG0);have c1:=keep1 (zu kB rfl) (zu HG1);have c2:=keep1 (zu kB rfl) (zu HG2)
   (unfold Oper.wpIn;refine ⟨fun _ _ => trivial,?_⟩;go_simp)
   exact zu hK _ _ ⟨u0,u1,u2,u3,true,u5,u6,false,false,ry,rfl,rfl,zu kB,zf,zu l3,(fun h => ⟨rfl,(zu l5 h).2⟩),zu l6,zf,zf⟩
  ·intro h0 hd K hK
   have z : u5 = false:=h0;have z8_ : u8 = false:=znb fun hu => z.symm.trans ((zu kF hu).2.2.2.2.2.1)
   have z7_ : u7 = false:=znb fun hu => z.symm.trans ((zu l6 (zu l7 hu).2.2).2)
   obtain ⟨rfl,rfl⟩ : u4 = true ∧ u3 = true:=by simp [Region.binds] at hd;simp [hd]
   subst z8_;subst z7_;subst z;clear h0 hd;rw [if_pos (by rfl)]
   (unfold Oper.wpIn;refine ⟨fun _ _ => trivial,?_⟩;go_simp)
   refine ⟨by first | rfl | trivial | (intro h;cases h),(callsIn_wide.2 (zu HF5 W (zu kB rfl))).mono ?_⟩;rintro e w8 ⟨rfl,hb8⟩;exact zu hK _ _ ⟨u0,u1,u2,true,true,true,u6,false,false,ry,rfl,rfl,(fun _ => bc (zu kB rfl) hb8),zf,zu l3,(fun _ => ⟨rfl,rfl⟩),(fun h => ⟨rfl,rfl⟩),zf,zf⟩
  ·intro h0 hd K hK
   have z : u6 = false:=h0;have z8_ : u8 = false:=znb fun hu => z.symm.trans ((zu kF hu).2.2.2.2.2.2.1)
   have z7_ : u7 = false:=znb fun hu => z.symm.trans ((zu l7 hu).2.2)
   obtain ⟨rfl,rfl⟩ : u3 = true ∧ u5 = true:=by simp [Region.binds] at hd;simp [hd]
   subst z8_;subst z7_;subst z;clear h0 hd;rw [if_pos (by rfl)]
   (unfold Oper.wpIn;refine ⟨fun _ _ => trivial,?_⟩;go_simp)
   refine ⟨by first | rfl | trivial | (intro h;cases h),(callsIn_wide.2 (zu HF6 W (zu kB rfl))).mono ?_⟩;rintro e w8 ⟨rfl,hb8⟩;exact zu hK _ _ ⟨u0,u1,u2,true,u4,true,true,false,false,ry,rfl,rfl,(fun _ => bc (zu kB rfl) hb8),zf,zu l3,(fun h => ⟨(zu l5 h).1,rfl⟩),(fun _ => ⟨rfl,rfl⟩),zf,zf⟩
  ·intro h0 hd K hK
   have z : u7 = false:=h0;have z8_ : u8 = false:=znb fun hu => z.symm.trans ((zu kF hu).2.2.2.2.2.2.2)
   obtain ⟨rfl,rfl,rfl⟩ : u0 = true ∧ u1 = true ∧ u6 = true:=by simp [Region.binds] at hd;simp [hd]
   subst z8_;subst z;clear h0 hd;rw [if_pos (by rfl)];obtain ⟨fn_,tmps_,assign_,body_,hyy,hR⟩:=zu HF7 _ (zu kB rfl)
   (unfold Oper.wpIn;refine ⟨fun _ _ => trivial,?_⟩;go_simp)
   refine ⟨by first | rfl | trivial | (intro h;cases h),hR.mono ?_⟩;rintro e w8 ⟨r9,rfl,hz8⟩;exact zu hK _ _ ⟨true,true,u2,u3,u4,u5,true,true,false,r9,rfl,rfl,zt,(fun _ => hz8),zu l3,zu l5,zu l6,(fun _ => ⟨rfl,rfl,rfl⟩),zf⟩
  ·intro h0 hd K hK
   have z : u8 = false:=h0
   have zd0 : u7 = true:=by
    simp [Region.binds] at hd;simp [hd]
   have zd : u7 = true ∧ u0 = true ∧ u1 = true ∧ u2 = true ∧ u3 = true ∧ u4 = true ∧ u5 = true ∧ u6 = true:=⟨zd0,(zu l7 zd0).1,(zu l7 zd0).2.1,(zu l3 (zu l6 (zu l7 zd0).2.2).1),(zu l6 (zu l7 zd0).2.2).1,(zu l5 (zu l6 (zu l7 zd0).2.2).2).1,(zu l6 (zu l7 zd0).2.2).2,(zu l7 zd0).2.2⟩
   obtain ⟨rfl,rfl,rfl,rfl,rfl,rfl,rfl,rfl⟩:=zd;subst z;clear h0 hd;rw [if_pos (by rfl)]
   (unfold Oper.wpIn;refine ⟨fun _ _ => trivial,?_⟩;go_simp)
   exact zu hK _ _ ⟨true,true,true,true,true,true,true,true,true,ry,rfl,rfl,zu kB,zu kZ,(fun _ => rfl),(fun _ => ⟨rfl,rfl⟩),(fun _ => ⟨rfl,rfl⟩),(fun _ => ⟨rfl,rfl,rfl⟩),(fun _ => ⟨rfl,rfl,rfl,rfl,rfl,rfl,rfl,rfl⟩)⟩
 case hend =>
  intro Lb A W hI;obtain ⟨u0,u1,u2,u3,u4,hI⟩:=hI;obtain ⟨u5,u6,u7,u8,ry,hI⟩:=hI;obtain ⟨hLb,hI⟩:=hI;obtain ⟨hA,hI⟩:=hI;obtain ⟨kB,hI⟩:=hI;obtain ⟨kZ,hI⟩:=hI;obtain ⟨l3,hI⟩:=hI;obtain ⟨l5,hI⟩:=hI;obtain ⟨l6,hI⟩:=hI;obtain ⟨l7,hI⟩:=hI;have kF:=hI;clear hI;subst hLb;subst hA;intro hL
  have hl : u0 = true ∧ u1 = true ∧ u2 = true ∧ u3 = true ∧ u4 = true ∧ u5 = true ∧ u6 = true ∧ u7 = true ∧ u8 = true:=by
   have h2:=congrArg Array.toList hL
   simpa [List.replicate] using h2
  obtain ⟨rfl,rfl,rfl,rfl,rfl,rfl,rfl,rfl,rfl⟩:=hl;exact zu HQ ry W (kZ rfl)
end Go.Proofs.YtkiplmabjeadgaaGreat
