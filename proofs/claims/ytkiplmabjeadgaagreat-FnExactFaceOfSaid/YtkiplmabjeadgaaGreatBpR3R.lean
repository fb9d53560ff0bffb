/- A statement of the model's l05Build that draws its order. -/
import Derived.Test.YtkiplmabjeadgaaGreatRunesR
import Derived.RangeFuncNested
import Derived.RangeFuncBound
import Derived.RangeFuncCalls
import Derived.RangeFuncLeaves
import Derived.Shelf.Abstract
import Derived.Shelf.RegionOpen
import Derived.WalkKit
import Derived.OwnWalkIn
import Derived.TacticsInMore
import Derived.LoopNIn
import Derived.LoopIn
namespace Go.Proofs.YtkiplmabjeadgaaGreat
set_option maxRecDepth 100000
set_option maxHeartbeats 16000000
open Go.ChangeShapes Go.WideShapes Go.ChangeAt Go.RowKit
set_option linter.unusedVariables false
set_option linter.unusedSimpArgs false
noncomputable def rg90 (id : Nat) : Go.Code:=match Tryz.f90.body with | some c => (regOfZ id c).getD .skip | none => .skip
noncomputable def rg120 (id : Nat) : Go.Code:=match Tryz.f120.body with | some c => (regOfZ id c).getD .skip | none => .skip
theorem at3r {s1 s2 s5 s6 s7 s8 s9 s10 s11 s12 s13 s14 s15 s16 s17 s18 s19 s20 s21 s22 s23 s24 s25 s26 s27 s28 s29 : Value} {g gp gr gc kk bb : Nat} {x y z : Int} {fb : Bool} {V : World} {K_ : Act → World → Prop}
  (HG0 : Hid (V.cell? ⟨g,0,none⟩ = some (.slice (some ⟨gc,0,none⟩) 13824 13824))) (HP0 : Hid (V.cell? ⟨gp,0,none⟩ = some (.int .i64 (x)))) (HP1 : Hid (V.cell? ⟨gp,1,none⟩ = some (.int .i64 (y)))) (HP2 : Hid (V.cell? ⟨gp,2,none⟩ = some (.int .i64 (z)))) (HC0 : Hid (V.cell? ⟨gc,kk * 2,none⟩ = some (.bool (fb)))) (HC1 : Hid (V.cell? ⟨gc,kk * 2 + 1,none⟩ = some (.int .i64 (bb : Int)))) (hbO : gr < V.heap.size) {oo0 : Value} (HO0 : Hid (V.cell? ⟨gr,0,none⟩ = some oo0)) {oo1 : Value} (HO1 : Hid (V.cell? ⟨gr,1,none⟩ = some oo1)) (HOf : Hid (∀ o,V.frozen? ⟨gr,o,none⟩ = false))
  (HF5 : Hid (∀ Xw,Below V.heap.size V Xw → Calls Tryz.prog 100 #[.agg #[.int .i64 (x),.int .i64 (y),.int .i64 (z)]] Xw fun e w' => e = .returned (.int .i64 (kk : Int)) ∧ Below Xw.heap.size Xw w'))
  (HX6 : Hid (kk < 13824))
  (hQ : ∀  (W1 W9 : World),W9 = ((W1.setCell ⟨gr,0,none⟩ (.bool (fb))).setCell ⟨gr,1,none⟩ (.int .i64 (bb : Int))) → Below V.heap.size V W1 → K_ { tmps:=#[.pointer (some ⟨g,0,none⟩),s1,s2,.pointer (some ⟨gp,0,none⟩),.pointer (some ⟨gr,0,none⟩),s5,s6,s7,s8,s9,s10,s11,s12,s13,s14,s15,s16,s17,s18,s19,s20,s21,.pointer (some ⟨g,0,none⟩),.pointer (some ⟨g,0,none⟩),.pointer (some ⟨g,0,none⟩),.slice (some ⟨gc,0,none⟩) 13824 13824,.agg #[.int .i64 (x),.int .i64 (y),.int .i64 (z)],.int .i64 (kk : Int),.pointer (some ⟨gc,kk * 2,none⟩),.agg #[.bool (fb),.int .i64 (bb : Int)]],defers:=[] } W9) :
  Go.Code.wp Tryz.prog (rg90 3) (Only K_) { tmps:=#[.pointer (some ⟨g,0,none⟩),s1,s2,.pointer (some ⟨gp,0,none⟩),.pointer (some ⟨gr,0,none⟩),s5,s6,s7,s8,s9,s10,s11,s12,s13,s14,s15,s16,s17,s18,s19,s20,s21,s22,s23,s24,s25,s26,s27,s28,s29],defers:=[] } V:=by
 have HQ:=hide hQ;clear hQ
 conv => arg 2;whnf
 refine wp_region_inv2 (fun Lb A W => ∃ (u0 u1 u2 u3 u4 u5 u6 u7 u8 : Bool) (dm : Nat),Lb = #[u0,u1,u2,u3,u4,u5,u6,u7,u8] ∧ A = ({ tmps:=#[.pointer (some ⟨g,0,none⟩),s1,s2,.pointer (some ⟨gp,0,none⟩),.pointer (some ⟨gr,0,none⟩),s5,s6,s7,s8,s9,s10,s11,s12,s13,s14,s15,s16,s17,s18,s19,s20,s21,(bif u0 then .pointer (some ⟨g,0,none⟩) else s22),(bif u1 then .pointer (some ⟨g,0,none⟩) else s23),(bif u2 then .pointer (some ⟨g,0,none⟩) else s24),(bif u3 then .slice (some ⟨gc,0,none⟩) 13824 13824 else s25),(bif u4 then .agg #[.int .i64 (x),.int .i64 (y),.int .i64 (z)] else s26),(bif u5 then .int .i64 (kk : Int) else s27),(bif u6 then .pointer (some ⟨gc,kk * 2,none⟩) else s28),(bif u7 then .agg #[.bool (fb),.int .i64 (bb : Int)] else s29)],defers:=[] } : Act) ∧ (u8 = false → Below V.heap.size V W) ∧ (u8 = true → ∃ W1,Below V.heap.size V W1 ∧ W = ((W1.setCell ⟨gr,0,none⟩ (.bool (fb))).setCell ⟨gr,1,none⟩ (.int .i64 (bb : Int)))) ∧ (u8 = true → u0 = true ∧ u1 = true ∧ u2 = true ∧ u3 = true ∧ u4 = true ∧ u5 = true ∧ u6 = true ∧ u7 = true)) (by kernel_rfl) (by kernel_rfl) ?h0 ?hstep ?hend
 case h0 =>
  exact ⟨false,false,false,false,false,false,false,false,false,0,rfl,rfl,(fun _ => Below.drew (bfl _ _)),zf,zf⟩
 case hstep =>
  intro Lb A W hI;obtain ⟨u0,u1,u2,u3,u4,hI⟩:=hI;obtain ⟨u5,u6,u7,u8,dm,hI⟩:=hI;obtain ⟨hLb,hI⟩:=hI;obtain ⟨hA,hI⟩:=hI;obtain ⟨kB,hI⟩:=hI;obtain ⟨kZ,hI⟩:=hI;have kF:=hI;clear hI;subst hLb;subst hA;replace kB:=hide kB;replace kZ:=hide kZ;replace kF:=hide kF;refine ⟨?_,?_,?_,?_,?_,?_,?_,?_,?_,trivial⟩
  ·intro h0 hd K hK
   have z : u0 = false:=h0;have z8_ : u8 = false:=znb fun hu => z.symm.trans ((zu kF hu).1)
   subst z8_;subst z;clear h0 hd;rw [if_pos (by rfl)];go_simp;exact zu hK _ _ ⟨true,u1,u2,u3,u4,u5,u6,u7,false,dm,rfl,rfl,zu kB,zf,zf⟩
  ·intro h0 hd K hK
   have z : u1 = false:=h0;have z8_ : u8 = false:=znb fun hu => z.symm.trans ((zu kF hu).2.1)
   obtain ⟨rfl⟩ : u0 = true:=by simp [Region.binds] at hd;simp [hd]
   subst z8_;subst z;clear h0 hd;rw [if_pos (by rfl)];go_simp;exact zu hK _ _ ⟨true,true,u2,u3,u4,u5,u6,u7,false,dm,rfl,rfl,zu kB,zf,zf⟩
  ·intro h0 hd K hK
   have z : u2 = false:=h0;have z8_ : u8 = false:=znb fun hu => z.symm.trans ((zu kF hu).2.2.1)
   obtain ⟨rfl⟩ : u1 = true:=by simp [Region.binds] at hd;simp [hd]
   subst z8_;subst z;clear h0 hd;rw [if_pos (by rfl)];go_simp;exact zu hK _ _ ⟨u0,true,true,u3,u4,u5,u6,u7,false,dm,rfl,rfl,zu kB,zf,zf⟩
  ·intro h0 hd K hK
   have z : u3 = false:=h0;have z8_ : u8 = false:=znb fun hu => z.symm.trans ((zu kF hu).2.2.2.1)
   obtain ⟨rfl⟩ : u2 = true:=by simp [Region.binds] at hd;simp [hd]
   subst z8_;subst z;clear h0 hd;rw [if_pos (by rfl)];have c0:=keep1 (zu kB rfl) (zu HG0);go_simp;exact zu hK _ _ ⟨u0,u1,true,true,u4,u5,u6,u7,false,dm,rfl,rfl,zu kB,zf,zf⟩
  ·intro h0 hd K hK
   have z : u4 = false:=h0;have z8_ : u8 = false:=znb fun hu => z.symm.trans ((zu kF hu).2.2.2.2.1)
   subst z8_;subst z;clear h0 hd;rw [if_pos (by rfl)];have c0:=keep1 (zu kB rfl) (zu HP0);have c1:=keep1 (zu kB rfl) (zu HP1);have c2:=keep1 (zu kB rfl) (zu HP2);go_simp;exact zu hK _ _ ⟨u0,u1,u2,u3,true,u5,u6,u7,false,dm,rfl,rfl,zu kB,zf,zf⟩
  ·intro h0 hd K hK
   have z : u5 = false:=h0;have z8_ : u8 = false:=znb fun hu => z.symm.trans ((zu kF hu).2.2.2.2.2.1)
   obtain ⟨rfl⟩ : u4 = true:=by simp [Region.binds] at hd;simp [hd]
   subst z8_;subst z;clear h0 hd;rw [if_pos (by rfl)];go_simp;refine (zu HF5 W (zu kB rfl)).mono ?_;rintro e w8 ⟨rfl,hb8⟩;exact zu hK _ _ ⟨u0,u1,u2,u3,true,true,u6,u7,false,dm,rfl,rfl,(fun _ => bc (zu kB rfl) hb8),zf,zf⟩
  ·intro h0 hd K hK
   have z : u6 = false:=h0;have z8_ : u8 = false:=znb fun hu => z.symm.trans ((zu kF hu).2.2.2.2.2.2.1)
   obtain ⟨rfl,rfl⟩ : u3 = true ∧ u5 = true:=by simp [Region.binds] at hd;simp [hd]
   subst z8_;subst z;clear h0 hd;rw [if_pos (by rfl)];have q1 : kk < 13824:=zu HX6;have q2 : (kk : Int) < (13824 : Int):=by omega
   go_simp;exact zu hK _ _ ⟨u0,u1,u2,true,u4,true,true,u7,false,dm,rfl,rfl,zu kB,zf,zf⟩
  ·intro h0 hd K hK
   have z : u7 = false:=h0;have z8_ : u8 = false:=znb fun hu => z.symm.trans ((zu kF hu).2.2.2.2.2.2.2)
   obtain ⟨rfl⟩ : u6 = true:=by simp [Region.binds] at hd;simp [hd]
   subst z8_;subst z;clear h0 hd;rw [if_pos (by rfl)];have c0:=keep1 (zu kB rfl) (zu HC0);have c1:=keep1 (zu kB rfl) (zu HC1);go_simp;exact zu hK _ _ ⟨u0,u1,u2,u3,u4,u5,true,true,false,dm,rfl,rfl,zu kB,zf,zf⟩
  ·intro h0 hd K hK
   have z : u8 = false:=h0
   have zd0 : u0 = true ∧ u1 = true ∧ u2 = true ∧ u3 = true ∧ u4 = true ∧ u5 = true ∧ u6 = true ∧ u7 = true:=by
    simp [Region.binds] at hd;simp [hd]
   have zd : u0 = true ∧ u1 = true ∧ u2 = true ∧ u3 = true ∧ u4 = true ∧ u5 = true ∧ u6 = true ∧ u7 = true:=⟨zd0.1,zd0.2.1,zd0.2.2.1,zd0.2.2.2.1,zd0.2.2.2.2.1,zd0.2.2.2.2.2.1,zd0.2.2.2.2.2.2.1,zd0.2.2.2.2.2.2.2⟩
   obtain ⟨rfl,rfl,rfl,rfl,rfl,rfl,rfl,rfl⟩:=zd;subst z;clear h0 hd;rw [if_pos (by rfl)]
   have hB:=(zu kB rfl)
   have q0:=keep1 hB (zu HO0);have q1:=keep1 hB (zu HO1);have fz : ∀ o,W.frozen? ⟨gr,o,none⟩ = false:=fun o => keepz hB hbO (zu HOf o)
   have HBB:=hide hB;clear hB;go_simp;exact zu hK _ _ ⟨true,true,true,true,true,true,true,true,true,dm,rfl,rfl,zt,(fun _ => ⟨W,zu HBB,rfl⟩),(fun _ => ⟨rfl,rfl,rfl,rfl,rfl,rfl,rfl,rfl⟩)⟩
 case hend =>
  intro Lb A W hI;obtain ⟨u0,u1,u2,u3,u4,hI⟩:=hI;obtain ⟨u5,u6,u7,u8,dm,hI⟩:=hI;obtain ⟨hLb,hI⟩:=hI;obtain ⟨hA,hI⟩:=hI;obtain ⟨kB,hI⟩:=hI;obtain ⟨kZ,hI⟩:=hI;have kF:=hI;clear hI;subst hLb;subst hA;intro hL
  have hl : u0 = true ∧ u1 = true ∧ u2 = true ∧ u3 = true ∧ u4 = true ∧ u5 = true ∧ u6 = true ∧ u7 = true ∧ u8 = true:=by
   have h2:=congrArg Array.toList hL
   simpa [List.replicate] using h2
  obtain ⟨rfl,rfl,rfl,rfl,rfl,rfl,rfl,rfl,rfl⟩:=hl;obtain ⟨W1,hA,hZ⟩:=kZ rfl;exact zu HQ   W1 W hZ hA
noncomputable def rg164 (id : Nat) : Go.Code:=match Tryz.f164.body with | some c => (regOfZ id c).getD .skip | none => .skip
theorem tp9 {s0 s1 s2 s3 s7 s8 s9 s10 s11 s12 s13 s14 s15 s16 s17 s18 s19 s20 s21 s22 s23 s24 s25 s26 s27 s28 s29 s30 s31 s32 s33 s34 s35 s36 s37 s38 s39 s40 s41 s42 s43 : Value} {gr rn rc at_ way : Nat} {t0 t1 t2 c0 c1 c2 c3 c4 c5 e0 e1 e2 e3 e4 e5 : Int} {V : World} {K_ : Act → World → Prop}
  (HC0 : Hid (V.cell? ⟨gr,at_ * 6,none⟩ = some (.int .i64 (c0)))) (HC1 : Hid (V.cell? ⟨gr,at_ * 6 + 1,none⟩ = some (.int .i64 (c1)))) (HC2 : Hid (V.cell? ⟨gr,at_ * 6 + 2,none⟩ = some (.int .i64 (c2)))) (HC3 : Hid (V.cell? ⟨gr,at_ * 6 + 3,none⟩ = some (.int .i64 (c3)))) (HC4 : Hid (V.cell? ⟨gr,at_ * 6 + 4,none⟩ = some (.int .i64 (c4)))) (HC5 : Hid (V.cell? ⟨gr,at_ * 6 + 5,none⟩ = some (.int .i64 (c5))))
  (HX2 : Hid (at_ < rn))
  (HF5 : Hid (∀ Xw,Below V.heap.size V Xw → Calls Tryz.prog 133 #[.int .i64 (way : Int)] Xw fun e w' => e = .returned (.agg #[.int .i64 (t0),.int .i64 (t1),.int .i64 (t2)]) ∧ Below Xw.heap.size Xw w'))
  (HF6 : Hid (∀ Xw,Below V.heap.size V Xw → Calls Tryz.prog 190 #[.agg #[.int .i64 (c0),.int .i64 (c1),.int .i64 (c2),.int .i64 (c3),.int .i64 (c4),.int .i64 (c5)],.agg #[.int .i64 (t0),.int .i64 (t1),.int .i64 (t2)]] Xw fun e w' => e = .returned (.agg #[.int .i64 (e0),.int .i64 (e1),.int .i64 (e2),.int .i64 (e3),.int .i64 (e4),.int .i64 (e5)]) ∧ Below Xw.heap.size Xw w'))
  (hQ : ∀ (n7 : Nat)  (W1 : World),Below V.heap.size V W1 → vb W1 n7 41 [.int .i64 (e0),.int .i64 (e1),.int .i64 (e2),.int .i64 (e3),.int .i64 (e4),.int .i64 (e5)] → V.heap.size ≤ n7 → K_ { tmps:=#[s0,s1,s2,s3,.slice (some ⟨gr,0,none⟩) rn rc,.int .i64 (at_ : Int),.int .i64 (way : Int),.pointer (some ⟨n7,0,none⟩),s8,s9,s10,s11,s12,s13,s14,s15,s16,s17,s18,s19,s20,s21,s22,s23,.slice (some ⟨gr,0,none⟩) rn rc,.int .i64 (at_ : Int),.pointer (some ⟨gr,at_ * 6,none⟩),.agg #[.int .i64 (c0),.int .i64 (c1),.int .i64 (c2),.int .i64 (c3),.int .i64 (c4),.int .i64 (c5)],.int .i64 (way : Int),.agg #[.int .i64 (t0),.int .i64 (t1),.int .i64 (t2)],.agg #[.int .i64 (e0),.int .i64 (e1),.int .i64 (e2),.int .i64 (e3),.int .i64 (e4),.int .i64 (e5)],s31,s32,s33,s34,s35,s36,s37,s38,s39,s40,s41,s42,s43],defers:=[] } W1) :
  Go.Code.wp Tryz.prog (rg164 9) (Only K_) { tmps:=#[s0,s1,s2,s3,.slice (some ⟨gr,0,none⟩) rn rc,.int .i64 (at_ : Int),.int .i64 (way : Int),s7,s8,s9,s10,s11,s12,s13,s14,s15,s16,s17,s18,s19,s20,s21,s22,s23,s24,s25,s26,s27,s28,s29,s30,s31,s32,s33,s34,s35,s36,s37,s38,s39,s40,s41,s42,s43],defers:=[] } V:=by
 have HQ:=hide hQ;clear hQ
 conv => arg 2;whnf
 refine wp_region_inv2 (fun Lb A W => ∃ (u0 u1 u2 u3 u4 u5 u6 u7 u8 : Bool) (n7 : Nat),Lb = #[u0,u1,u2,u3,u4,u5,u6,u7,u8] ∧ A = ({ tmps:=#[s0,s1,s2,s3,.slice (some ⟨gr,0,none⟩) rn rc,.int .i64 (at_ : Int),.int .i64 (way : Int),(bif u7 then .pointer (some ⟨n7,0,none⟩) else s7),s8,s9,s10,s11,s12,s13,s14,s15,s16,s17,s18,s19,s20,s21,s22,s23,(bif u0 then .slice (some ⟨gr,0,none⟩) rn rc else s24),(bif u1 then .int .i64 (at_ : Int) else s25),(bif u2 then .pointer (some ⟨gr,at_ * 6,none⟩) else s26),(bif u3 then .agg #[.int .i64 (c0),.int .i64 (c1),.int .i64 (c2),.int .i64 (c3),.int .i64 (c4),.int .i64 (c5)] else s27),(bif u4 then .int .i64 (way : Int) else s28),(bif u5 then .agg #[.int .i64 (t0),.int .i64 (t1),.int .i64 (t2)] else s29),(bif u6 then .agg #[.int .i64 (e0),.int .i64 (e1),.int .i64 (e2),.int .i64 (e3),.int .i64 (e4),.int .i64 (e5)] else s30),s31,s32,s33,s34,s35,s36,s37,s38,s39,s40,s41,s42,s43],defers:=[] } : Act) ∧ Below V.heap.size V W ∧ (u7 = true → vb W n7 41 (bif u8 then [.int .i64 (e0),.int .i64 (e1),.int .i64 (e2),.int .i64 (e3),.int .i64 (e4),.int .i64 (e5)] else [.int .i64 (0),.int .i64 (0),.int .i64 (0),.int .i64 (0),.int .i64 (0),.int .i64 (0)]) ∧ V.heap.size ≤ n7) ∧ (u8 = true → u0 = true ∧ u1 = true ∧ u2 = true ∧ u3 = true ∧ u4 = true ∧ u5 = true ∧ u6 = true ∧ u7 = true)) (by kernel_rfl) (by kernel_rfl) ?h0 ?hstep ?hend
 case h0 =>
  exact ⟨false,false,false,false,false,false,false,false,false,0,rfl,rfl,Below.drew (bfl _ _),zf,zf⟩
 case hstep =>
  intro Lb A W hI;obtain ⟨u0,u1,u2,u3,u4,hI⟩:=hI;obtain ⟨u5,u6,u7,u8,n7,hI⟩:=hI;obtain ⟨hLb,hI⟩:=hI;obtain ⟨hA,hI⟩:=hI;obtain ⟨kB,hI⟩:=hI;obtain ⟨k7,hI⟩:=hI;have kF:=hI;clear hI;subst hLb;subst hA;replace kB:=hide kB;replace k7:=hide k7;replace kF:=hide kF;refine ⟨?_,?_,?_,?_,?_,?_,?_,?_,?_,trivial⟩
  ·intro h0 hd K hK
   have z : u0 = false:=h0;have z8_ : u8 = false:=znb fun hu => z.symm.trans ((zu kF hu).1)
   subst z8_;subst z;clear h0 hd;rw [if_pos (by rfl)];go_simp;exact zu hK _ _ ⟨true,u1,u2,u3,u4,u5,u6,u7,false,n7,rfl,rfl,zu kB,zu k7,zf⟩
  ·intro h0 hd K hK
   have z : u1 = false:=h0;have z8_ : u8 = false:=znb fun hu => z.symm.trans ((zu kF hu).2.1)
   subst z8_;subst z;clear h0 hd;rw [if_pos (by rfl)];go_simp;exact zu hK _ _ ⟨u0,true,u2,u3,u4,u5,u6,u7,false,n7,rfl,rfl,zu kB,zu k7,zf⟩
  ·intro h0 hd K hK
   have z : u2 = false:=h0;have z8_ : u8 = false:=znb fun hu => z.symm.trans ((zu kF hu).2.2.1)
   obtain ⟨rfl,rfl⟩ : u0 = true ∧ u1 = true:=by simp [Region.binds] at hd;simp [hd]
   subst z8_;subst z;clear h0 hd;rw [if_pos (by rfl)];have q1 : at_ < rn:=zu HX2;have q2 : (at_ : Int) < (rn : Int):=by omega
   go_simp;exact zu hK _ _ ⟨true,true,true,u3,u4,u5,u6,u7,false,n7,rfl,rfl,zu kB,zu k7,zf⟩
  ·intro h0 hd K hK
   have z : u3 = false:=h0;have z8_ : u8 = false:=znb fun hu => z.symm.trans ((zu kF hu).2.2.2.1)
   obtain ⟨rfl⟩ : u2 = true:=by simp [Region.binds] at hd;simp [hd]
   subst z8_;subst z;clear h0 hd;rw [if_pos (by rfl)];have c0:=keep1 (zu kB) (zu HC0);have c1:=keep1 (zu kB) (zu HC1);have c2:=keep1 (zu kB) (zu HC2);have c3:=keep1 (zu kB) (zu HC3);have c4:=keep1 (zu kB) (zu HC4);have c5:=keep1 (zu kB) (zu HC5);go_simp;exact zu hK _ _ ⟨u0,u1,true,true,u4,u5,u6,u7,false,n7,rfl,rfl,zu kB,zu k7,zf⟩
  ·intro h0 hd K hK
   have z : u4 = false:=h0;have z8_ : u8 = false:=znb fun hu => z.symm.trans ((zu kF hu).2.2.2.2.1)
   subst z8_;subst z;clear h0 hd;rw [if_pos (by rfl)];go_simp;exact zu hK _ _ ⟨u0,u1,u2,u3,true,u5,u6,u7,false,n7,rfl,rfl,zu kB,zu k7,zf⟩
  ·intro h0 hd K hK
   have z : u5 = false:=h0;have z8_ : u8 = false:=znb fun hu => z.symm.trans ((zu kF hu).2.2.2.2.2.1)
   obtain ⟨rfl⟩ : u4 = true:=by simp [Region.binds] at hd;simp [hd]
   subst z8_;subst z;clear h0 hd;rw [if_pos (by rfl)];go_simp;refine (zu HF5 W (zu kB)).mono ?_;rintro e w8 ⟨rfl,hb8⟩;exact zu hK _ _ ⟨u0,u1,u2,u3,true,true,u6,u7,false,n7,rfl,rfl,bc (zu kB) hb8,(fun h => ⟨(zu k7 h).1.bel hb8,(zu k7 h).2⟩),zf⟩
  ·intro h0 hd K hK
   have z : u6 = false:=h0;have z8_ : u8 = false:=znb fun hu => z.symm.trans ((zu kF hu).2.2.2.2.2.2.1)
   obtain ⟨rfl,rfl⟩ : u3 = true ∧ u5 = true:=by simp [Region.binds] at hd;simp [hd]
   subst z8_;subst z;clear h0 hd;rw [if_pos (by rfl)];go_simp;refine (zu HF6 W (zu kB)).mono ?_;rintro e w8 ⟨rfl,hb8⟩;exact zu hK _ _ ⟨u0,u1,u2,true,u4,true,true,u7,false,n7,rfl,rfl,bc (zu kB) hb8,(fun h => ⟨(zu k7 h).1.bel hb8,(zu k7 h).2⟩),zf⟩
  ·intro h0 hd K hK
   have z : u7 = false:=h0;have z8_ : u8 = false:=znb fun hu => z.symm.trans ((zu kF hu).2.2.2.2.2.2.2)
   subst z8_;subst z;clear h0 hd;rw [if_pos (by rfl)];go_simp;exact zu hK _ _ ⟨u0,u1,u2,u3,u4,u5,u6,true,false,W.heap.size,rfl,rfl,ba (zu kB) _,(fun _ => ⟨vb_new W 41 _ _ rfl,(zu kB).size⟩),zf⟩
  ·intro h0 hd K hK
   have z : u8 = false:=h0
   have zd0 : u0 = true ∧ u1 = true ∧ u2 = true ∧ u3 = true ∧ u4 = true ∧ u5 = true ∧ u6 = true ∧ u7 = true:=by
    simp [Region.binds] at hd;simp [hd]
   have zd : u0 = true ∧ u1 = true ∧ u2 = true ∧ u3 = true ∧ u4 = true ∧ u5 = true ∧ u6 = true ∧ u7 = true:=⟨zd0.1,zd0.2.1,zd0.2.2.1,zd0.2.2.2.1,zd0.2.2.2.2.1,zd0.2.2.2.2.2.1,zd0.2.2.2.2.2.2.1,zd0.2.2.2.2.2.2.2⟩
   obtain ⟨rfl,rfl,rfl,rfl,rfl,rfl,rfl,rfl⟩:=zd;subst z;clear h0 hd;rw [if_pos (by rfl)];have v1:=(zu k7 rfl).1;have g9:=(zu k7 rfl).2;have fz:=v1.frozen;have q0:=v1.cell (m:=0) rfl;have q1:=v1.cell (m:=1) rfl;have q2:=v1.cell (m:=2) rfl;have q3:=v1.cell (m:=3) rfl;have q4:=v1.cell (m:=4) rfl;have q5:=v1.cell (m:=5) rfl;have HV1:=hide v1;clear v1;go_simp
   exact zu hK _ _ ⟨true,true,true,true,true,true,true,true,true,n7,rfl,rfl,(((((((((((((zu kB)).setCell (p:=⟨n7,0,none⟩) g9 _)).setCell (p:=⟨n7,1,none⟩) g9 _)).setCell (p:=⟨n7,2,none⟩) g9 _)).setCell (p:=⟨n7,3,none⟩) g9 _)).setCell (p:=⟨n7,4,none⟩) g9 _)).setCell (p:=⟨n7,5,none⟩) g9 _),(fun _ => ⟨(((((((zu HV1).set 0 _).set 1 _).set 2 _).set 3 _).set 4 _).set 5 _),g9⟩),(fun _ => ⟨rfl,rfl,rfl,rfl,rfl,rfl,rfl,rfl⟩)⟩
 case hend =>
  intro Lb A W hI;obtain ⟨u0,u1,u2,u3,u4,hI⟩:=hI;obtain ⟨u5,u6,u7,u8,n7,hI⟩:=hI;obtain ⟨hLb,hI⟩:=hI;obtain ⟨hA,hI⟩:=hI;obtain ⟨kB,hI⟩:=hI;obtain ⟨k7,hI⟩:=hI;have kF:=hI;clear hI;subst hLb;subst hA;intro hL
  have hl : u0 = true ∧ u1 = true ∧ u2 = true ∧ u3 = true ∧ u4 = true ∧ u5 = true ∧ u6 = true ∧ u7 = true ∧ u8 = true:=by
   have h2:=congrArg Array.toList hL
   simpa [List.replicate] using h2
  obtain ⟨rfl,rfl,rfl,rfl,rfl,rfl,rfl,rfl,rfl⟩:=hl;exact zu HQ n7  W kB (k7 rfl).1 (k7 rfl).2
noncomputable def rg89 (id : Nat) : Go.Code:=match Tryz.f89.body with | some c => (regOfZ id c).getD .skip | none => .skip
theorem fo3 {s3 s4 s5 s6 s7 s8 s9 s10 s11 s12 s13 s14 s15 s16 s17 s18 s19 s20 s21 s22 s23 s24 s25 s26 s27 s28 s29 s30 s31 s32 s33 s34 s35 s36 : Value} {p po n cu sd pc : Nat} {nm : ByteArray} {c0 c1 c2 c3 c4 c5 : Int} {V : World} {K_ : Act → World → Prop}
  (HC0 : Hid (V.cell? ⟨p,po,none⟩ = some (.int .i64 (c0)))) (HC1 : Hid (V.cell? ⟨p,po + 1,none⟩ = some (.int .i64 (c1)))) (HC2 : Hid (V.cell? ⟨p,po + 2,none⟩ = some (.int .i64 (c2)))) (HC3 : Hid (V.cell? ⟨p,po + 3,none⟩ = some (.int .i64 (c3)))) (HC4 : Hid (V.cell? ⟨p,po + 4,none⟩ = some (.int .i64 (c4)))) (HC5 : Hid (V.cell? ⟨p,po + 5,none⟩ = some (.int .i64 (c5))))
  (HF5 : Hid (∀ Xw,Below V.heap.size V Xw → Calls Tryz.prog 124 #[.slice (some ⟨p,po,none⟩) n cu] Xw fun e w' => e = .returned (.int .i64 (pc : Int)) ∧ Below Xw.heap.size Xw w'))
  (HX7 : Hid (0 < n))
  (hQ : ∀ (n10 : Nat)  (W1 : World),Below V.heap.size V W1 → vb W1 n10 43 [.string nm,.int .i64 (sd : Int),.int .i64 (n : Int),.int .i64 (pc : Int),.int .i64 (c0),.int .i64 (c1),.int .i64 (c2),.int .i64 (c3),.int .i64 (c4),.int .i64 (c5)] → V.heap.size ≤ n10 → K_ { tmps:=#[.string nm,.int .i64 (sd : Int),.slice (some ⟨p,po,none⟩) n cu,s3,s4,s5,s6,.pointer (some ⟨n10,0,none⟩),s8,s9,s10,s11,s12,s13,.string nm,.int .i64 (sd : Int),.slice (some ⟨p,po,none⟩) n cu,.int .i64 (n : Int),.slice (some ⟨p,po,none⟩) n cu,.int .i64 (pc : Int),.slice (some ⟨p,po,none⟩) n cu,.pointer (some ⟨p,po,none⟩),.agg #[.int .i64 (c0),.int .i64 (c1),.int .i64 (c2),.int .i64 (c3),.int .i64 (c4),.int .i64 (c5)],.agg #[.string nm,.int .i64 (sd : Int),.int .i64 (n : Int),.int .i64 (pc : Int),.int .i64 (c0),.int .i64 (c1),.int .i64 (c2),.int .i64 (c3),.int .i64 (c4),.int .i64 (c5)],s24,s25,s26,s27,s28,s29,s30,s31,s32,s33,s34,s35,s36],defers:=[] } W1) :
  Go.Code.wp Tryz.prog (rg89 3) (Only K_) { tmps:=#[.string nm,.int .i64 (sd : Int),.slice (some ⟨p,po,none⟩) n cu,s3,s4,s5,s6,s7,s8,s9,s10,s11,s12,s13,s14,s15,s16,s17,s18,s19,s20,s21,s22,s23,s24,s25,s26,s27,s28,s29,s30,s31,s32,s33,s34,s35,s36],defers:=[] } V:=by
 have HQ:=hide hQ;clear hQ
 conv => arg 2;whnf
 refine wp_region_inv2 (fun Lb A W => ∃ (u0 u1 u2 u3 u4 u5 u6 u7 u8 u9 u10 u11 : Bool) (n10 : Nat),Lb = #[u0,u1,u2,u3,u4,u5,u6,u7,u8,u9,u10,u11] ∧ A = ({ tmps:=#[.string nm,.int .i64 (sd : Int),.slice (some ⟨p,po,none⟩) n cu,s3,s4,s5,s6,(bif u10 then .pointer (some ⟨n10,0,none⟩) else s7),s8,s9,s10,s11,s12,s13,(bif u0 then .string nm else s14),(bif u1 then .int .i64 (sd : Int) else s15),(bif u2 then .slice (some ⟨p,po,none⟩) n cu else s16),(bif u3 then .int .i64 (n : Int) else s17),(bif u4 then .slice (some ⟨p,po,none⟩) n cu else s18),(bif u5 then .int .i64 (pc : Int) else s19),(bif u6 then .slice (some ⟨p,po,none⟩) n cu else s20),(bif u7 then .pointer (some ⟨p,po,none⟩) else s21),(bif u8 then .agg #[.int .i64 (c0),.int .i64 (c1),.int .i64 (c2),.int .i64 (c3),.int .i64 (c4),.int .i64 (c5)] else s22),(bif u9 then .agg #[.string nm,.int .i64 (sd : Int),.int .i64 (n : Int),.int .i64 (pc : Int),.int .i64 (c0),.int .i64 (c1),.int .i64 (c2),.int .i64 (c3),.int .i64 (c4),.int .i64 (c5)] else s23),s24,s25,s26,s27,s28,s29,s30,s31,s32,s33,s34,s35,s36],defers:=[] } : Act) ∧ Below V.heap.size V W ∧ (u10 = true → vb W n10 43 (bif u11 then [.string nm,.int .i64 (sd : Int),.int .i64 (n : Int),.int .i64 (pc : Int),.int .i64 (c0),.int .i64 (c1),.int .i64 (c2),.int .i64 (c3),.int .i64 (c4),.int .i64 (c5)] else [.string ⟨#[]⟩,.int .i64 (0),.int .i64 (0),.int .i64 (0),.int .i64 (0),.int .i64 (0),.int .i64 (0),.int .i64 (0),.int .i64 (0),.int .i64 (0)]) ∧ V.heap.size ≤ n10) ∧ (u11 = true → u0 = true ∧ u1 = true ∧ u2 = true ∧ u3 = true ∧ u4 = true ∧ u5 = true ∧ u6 = true ∧ u7 = true ∧ u8 = true ∧ u9 = true ∧ u10 = true)) (by kernel_rfl) (by kernel_rfl) ?h0 ?hstep ?hend
 case h0 =>
  exact ⟨false,false,false,false,false,false,false,false,false,false,false,false,0,rfl,rfl,Below.drew (bfl _ _),zf,zf⟩
 case hstep =>
  intro Lb A W hI;obtain ⟨u0,u1,u2,u3,u4,hI⟩:=hI;obtain ⟨u5,u6,u7,u8,u9,hI⟩:=hI;obtain ⟨u10,u11,n10,hI⟩:=hI;obtain ⟨hLb,hI⟩:=hI;obtain ⟨hA,hI⟩:=hI;obtain ⟨kB,hI⟩:=hI;obtain ⟨k10,hI⟩:=hI;have kF:=hI;clear hI;subst hLb;subst hA;replace kB:=hide kB;replace k10:=hide k10;replace kF:=hide kF;refine ⟨?_,?_,?_,?_,?_,?_,?_,?_,?_,?_,?_,?_,trivial⟩
  ·intro h0 hd K hK
   have z : u0 = false:=h0;have z11_ : u11 = false:=znb fun hu => z.symm.trans ((zu kF hu).1)
   subst z11_;subst z;clear h0 hd;rw [if_pos (by rfl)];go_simp;exact zu hK _ _ ⟨true,u1,u2,u3,u4,u5,u6,u7,u8,u9,u10,false,n10,rfl,rfl,zu kB,zu k10,zf⟩
  ·intro h0 hd K hK
   have z : u1 = false:=h0;have z11_ : u11 = false:=znb fun hu => z.symm.trans ((zu kF hu).2.1)
   subst z11_;subst z;clear h0 hd;rw [if_pos (by rfl)];go_simp;exact zu hK _ _ ⟨u0,true,u2,u3,u4,u5,u6,u7,u8,u9,u10,false,n10,rfl,rfl,zu kB,zu k10,zf⟩
  ·intro h0 hd K hK
   have z : u2 = false:=h0;have z11_ : u11 = false:=znb fun hu => z.symm.trans ((zu kF hu).2.2.1)
   subst z11_;subst z;clear h0 hd;rw [if_pos (by rfl)];go_simp;exact zu hK _ _ ⟨u0,u1,true,u3,u4,u5,u6,u7,u8,u9,u10,false,n10,rfl,rfl,zu kB,zu k10,zf⟩
  ·intro h0 hd K hK
   have z : u3 = false:=h0;have z11_ : u11 = false:=znb fun hu => z.symm.trans ((zu kF hu).2.2.2.1)
   obtain ⟨rfl⟩ : u2 = true:=by simp [Region.binds] at hd;simp [hd]
   subst z11_;subst z;clear h0 hd;rw [if_pos (by rfl)];go_simp;exact zu hK _ _ ⟨u0,u1,true,true,u4,u5,u6,u7,u8,u9,u10,false,n10,rfl,rfl,zu kB,zu k10,zf⟩
  ·intro h0 hd K hK
   have z : u4 = false:=h0;have z11_ : u11 = false:=znb fun hu => z.symm.trans ((zu kF hu).2.2.2.2.1)
   subst z11_;subst z;clear h0 hd;rw [if_pos (by rfl)];go_simp;exact zu hK _ _ ⟨u0,u1,u2,u3,true,u5,u6,u7,u8,u9,u10,false,n10,rfl,rfl,zu kB,zu k10,zf⟩
  ·intro h0 hd K hK
   have z : u5 = false:=h0;have z11_ : u11 = false:=znb fun hu => z.symm.trans ((zu kF hu).2.2.2.2.2.1)
   obtain ⟨rfl⟩ : u4 = true:=by simp [Region.binds] at hd;simp [hd]
   subst z11_;subst z;clear h0 hd;rw [if_pos (by rfl)];go_simp;refine (zu HF5 W (zu kB)).mono ?_;rintro e w8 ⟨rfl,hb8⟩;exact zu hK _ _ ⟨u0,u1,u2,u3,true,true,u6,u7,u8,u9,u10,false,n10,rfl,rfl,bc (zu kB) hb8,(fun h => ⟨(zu k10 h).1.bel hb8,(zu k10 h).2⟩),zf⟩
  ·intro h0 hd K hK
   have z : u6 = false:=h0;have z11_ : u11 = false:=znb fun hu => z.symm.trans ((zu kF hu).2.2.2.2.2.2.1)
   subst z11_;subst z;clear h0 hd;rw [if_pos (by rfl)];go_simp;exact zu hK _ _ ⟨u0,u1,u2,u3,u4,u5,true,u7,u8,u9,u10,false,n10,rfl,rfl,zu kB,zu k10,zf⟩
  ·intro h0 hd K hK
   have z : u7 = false:=h0;have z11_ : u11 = false:=znb fun hu => z.symm.trans ((zu kF hu).2.2.2.2.2.2.2.1)
   obtain ⟨rfl⟩ : u6 = true:=by simp [Region.binds] at hd;simp [hd]
   subst z11_;subst z;clear h0 hd;rw [if_pos (by rfl)];have q1 : 0 < n:=zu HX7;have q2 : (0 : Int) < (n : Int):=by omega
   go_simp;exact zu hK _ _ ⟨u0,u1,u2,u3,u4,u5,true,true,u8,u9,u10,false,n10,rfl,rfl,zu kB,zu k10,zf⟩
  ·intro h0 hd K hK
   have z : u8 = false:=h0;have z11_ : u11 = false:=znb fun hu => z.symm.trans ((zu kF hu).2.2.2.2.2.2.2.2.1)
   obtain ⟨rfl⟩ : u7 = true:=by simp [Region.binds] at hd;simp [hd]
   subst z11_;subst z;clear h0 hd;rw [if_pos (by rfl)];have c0:=keep1 (zu kB) (zu HC0);have c1:=keep1 (zu kB) (zu HC1);have c2:=keep1 (zu kB) (zu HC2);have c3:=keep1 (zu kB) (zu HC3);have c4:=keep1 (zu kB) (zu HC4);have c5:=keep1 (zu kB) (zu HC5);go_simp;exact zu hK _ _ ⟨u0,u1,u2,u3,u4,u5,u6,true,true,u9,u10,false,n10,rfl,rfl,zu kB,zu k10,zf⟩
  ·intro h0 hd K hK
   have z : u9 = false:=h0;have z11_ : u11 = false:=znb fun hu => z.symm.trans ((zu kF hu).2.2.2.2.2.2.2.2.2.1)
   obtain ⟨rfl,rfl,rfl,rfl,rfl⟩ : u0 = true ∧ u1 = true ∧ u3 = true ∧ u5 = true ∧ u8 = true:=by simp [Region.binds] at hd;simp [hd]
   subst z11_;subst z;clear h0 hd;rw [if_pos (by rfl)];go_simp;exact zu hK _ _ ⟨true,true,u2,true,u4,true,u6,u7,true,true,u10,false,n10,rfl,rfl,zu kB,zu k10,zf⟩
  ·intro h0 hd K hK
   have z : u10 = false:=h0;have z11_ : u11 = false:=znb fun hu => z.symm.trans ((zu kF hu).2.2.2.2.2.2.2.2.2.2)
   subst z11_;subst z;clear h0 hd;rw [if_pos (by rfl)];go_simp;exact zu hK _ _ ⟨u0,u1,u2,u3,u4,u5,u6,u7,u8,u9,true,false,W.heap.size,rfl,rfl,ba (zu kB) _,(fun _ => ⟨vb_new W 43 _ _ rfl,(zu kB).size⟩),zf⟩
  ·intro h0 hd K hK
   have z : u11 = false:=h0
   have zd0 : u0 = true ∧ u1 = true ∧ u2 = true ∧ u3 = true ∧ u4 = true ∧ u5 = true ∧ u6 = true ∧ u7 = true ∧ u8 = true ∧ u9 = true ∧ u10 = true:=by
    simp [Region.binds] at hd;simp [hd]
   have zd : u0 = true ∧ u1 = true ∧ u2 = true ∧ u3 = true ∧ u4 = true ∧ u5 = true ∧ u6 = true ∧ u7 = true ∧ u8 = true ∧ u9 = true ∧ u10 = true:=⟨zd0.1,zd0.2.1,zd0.2.2.1,zd0.2.2.2.1,zd0.2.2.2.2.1,zd0.2.2.2.2.2.1,zd0.2.2.2.2.2.2.1,zd0.2.2.2.2.2.2.2.1,zd0.2.2.2.2.2.2.2.2.1,zd0.2.2.2.2.2.2.2.2.2.1,zd0.2.2.2.2.2.2.2.2.2.2⟩
   obtain ⟨rfl,rfl,rfl,rfl,rfl,rfl,rfl,rfl,rfl,rfl,rfl⟩:=zd;subst z;clear h0 hd;rw [if_pos (by rfl)];have v1:=(zu k10 rfl).1;have g9:=(zu k10 rfl).2;have fz:=v1.frozen;have q0:=v1.cell (m:=0) rfl;have q1:=v1.cell (m:=1) rfl;have q2:=v1.cell (m:=2) rfl;have q3:=v1.cell (m:=3) rfl;have q4:=v1.cell (m:=4) rfl;have q5:=v1.cell (m:=5) rfl;have q6:=v1.cell (m:=6) rfl;have q7:=v1.cell (m:=7) rfl;have q8:=v1.cell (m:=8) rfl;have q9:=v1.cell (m:=9) rfl;have HV1:=hide v1;clear v1;go_simp
   exact zu hK _ _ ⟨true,true,true,true,true,true,true,true,true,true,true,true,n10,rfl,rfl,(((((((((((((((((((((zu kB)).setCell (p:=⟨n10,0,none⟩) g9 _)).setCell (p:=⟨n10,1,none⟩) g9 _)).setCell (p:=⟨n10,2,none⟩) g9 _)).setCell (p:=⟨n10,3,none⟩) g9 _)).setCell (p:=⟨n10,4,none⟩) g9 _)).setCell (p:=⟨n10,5,none⟩) g9 _)).setCell (p:=⟨n10,6,none⟩) g9 _)).setCell (p:=⟨n10,7,none⟩) g9 _)).setCell (p:=⟨n10,8,none⟩) g9 _)).setCell (p:=⟨n10,9,none⟩) g9 _),(fun _ => ⟨(((((((((((zu HV1).set 0 _).set 1 _).set 2 _).set 3 _).set 4 _).set 5 _).set 6 _).set 7 _).set 8 _).set 9 _),g9⟩),(fun _ => ⟨rfl,rfl,rfl,rfl,rfl,rfl,rfl,rfl,rfl,rfl,rfl⟩)⟩
 case hend =>
  intro Lb A W hI;obtain ⟨u0,u1,u2,u3,u4,hI⟩:=hI;obtain ⟨u5,u6,u7,u8,u9,hI⟩:=hI;obtain ⟨u10,u11,n10,hI⟩:=hI;obtain ⟨hLb,hI⟩:=hI;obtain ⟨hA,hI⟩:=hI;obtain ⟨kB,hI⟩:=hI;obtain ⟨k10,hI⟩:=hI;have kF:=hI;clear hI;subst hLb;subst hA;intro hL
  have hl : u0 = true ∧ u1 = true ∧ u2 = true ∧ u3 = true ∧ u4 = true ∧ u5 = true ∧ u6 = true ∧ u7 = true ∧ u8 = true ∧ u9 = true ∧ u10 = true ∧ u11 = true:=by
   have h2:=congrArg Array.toList hL
   simpa [List.replicate] using h2
  obtain ⟨rfl,rfl,rfl,rfl,rfl,rfl,rfl,rfl,rfl,rfl,rfl,rfl⟩:=hl;exact zu HQ n10  W kB (k10 rfl).1 (k10 rfl).2
structure Grw (O : Nat → Prop) (A B : World) : Prop where
 os : B.os = A.os
 tape : B.tape = A.tape
 output : B.output = A.output
 size : A.heap.size ≤ B.heap.size
 block : ∀ b,b < A.heap.size → ¬ O b → B.heap[b]? = A.heap[b]?
theorem Grw.of_bel {O : Nat → Prop} {A B : World} (h : Below A.heap.size A B) : Grw O A B:=⟨h.os,h.tape,h.output,h.size,fun b hb _ => h.block b hb⟩
theorem Grw.bel {O : Nat → Prop} {A B : World} {n : Nat} (h : Grw O A B) (hn : n ≤ A.heap.size) (hO : ∀ b,O b → n ≤ b) : Below n A B:=⟨h.os,h.tape,h.output,h.size,fun b hb => h.block b (Nat.lt_of_lt_of_le hb hn) (fun ho => absurd (hO b ho) (by omega))⟩
theorem Grw.mono {O O' : Nat → Prop} {A B : World} (h : Grw O A B) (hs : ∀ b,O b → O' b) : Grw O' A B:=⟨h.os,h.tape,h.output,h.size,fun b hb hn => h.block b hb (fun ho => hn (hs b ho))⟩
theorem Grw.put {O : Nat → Prop} {A : World} {l : Nat} (hl : O l) (o : Obj) : Grw O A (A.putObj l o):=⟨rfl,rfl,rfl,by simp,fun b _ hn => World.putObj_heap_other (fun e => hn (by rw [e];exact hl))⟩
theorem Grw.cell {O : Nat → Prop} {A : World} {l o : Nat} (hl : O l) (v : Value) : Grw O A (A.setCell ⟨l,o,none⟩ v):=⟨rfl,rfl,rfl,by simp,fun b _ hn => Below.heap_setCell _ _ _ _ (fun e => hn (by rw [e];exact hl))⟩
theorem Grw.trans {O : Nat → Prop} {A B C : World} (h : Grw O A B) (k : Grw O B C) : Grw O A C:=⟨k.os.trans h.os,k.tape.trans h.tape,k.output.trans h.output,Nat.le_trans h.size k.size,fun b hb hn => (k.block b (Nat.lt_of_lt_of_le hb h.size) hn).trans (h.block b hb hn)⟩
structure Kpt (n : Nat) (O : Nat → Prop) (A B : World) : Prop where
 bel : Below n A B
 own : ∀ b,O b → b < A.heap.size → B.heap[b]? = A.heap[b]?
theorem Kpt.refl (n : Nat) (O : Nat → Prop) (A : World) : Kpt n O A A:=⟨bfl _ _,fun _ _ _ => rfl⟩
theorem Kpt.of_bel {n : Nat} {O : Nat → Prop} {A B : World} (h : Below A.heap.size A B) (hn : n ≤ A.heap.size) : Kpt n O A B:=⟨h.mono hn,fun b _ hb => h.block b hb⟩
theorem Kpt.trans {n : Nat} {O : Nat → Prop} {A B C : World} (h : Kpt n O A B) (k : Kpt n O B C) : Kpt n O A C:=⟨h.bel.trans k.bel,fun b ho hb => (k.own b ho (Nat.lt_of_lt_of_le hb h.bel.size)).trans (h.own b ho hb)⟩
theorem Kpt.sub {n : Nat} {O O' : Nat → Prop} {A B : World} (h : Kpt n O A B) (hs : ∀ b,O' b → O b) : Kpt n O' A B:=⟨h.bel,fun b ho hb => h.own b (hs b ho) hb⟩
theorem Kpt.put {n : Nat} {O : Nat → Prop} {A : World} {l : Nat} (hl : n ≤ l) (hn : ¬ O l) (o : Obj) : Kpt n O A (A.putObj l o):=⟨⟨rfl,rfl,rfl,by simp,fun b hb => World.putObj_heap_other (by omega)⟩,fun b ho _ => World.putObj_heap_other (fun e => hn (by rw [← e];exact ho))⟩
variable {F : Fence} {n : Nat} {P : Program}
noncomputable def rg44 (id : Nat) : Go.Code:=match Tryz.f44.body with | some c => (regOfZ id c).getD .skip | none => .skip
theorem bu10 {s0 s2 s3 s4 s5 s6 s7 s8 s9 s11 s12 s13 s14 s15 s16 s17 s18 s19 s20 s21 s22 s23 s24 s25 s26 s27 s28 s29 s30 s31 s32 s33 s34 s35 s36 s37 s38 s39 s40 s41 s42 s43 s44 s45 s46 s47 s48 s49 s50 s51 s52 s53 s54 s55 s56 s57 s58 s59 s60 s61 s62 s63 s64 s65 s66 s67 s68 s69 s70 s71 s72 s73 s74 s75 s76 s77 s78 s79 s80 s81 s82 s83 s84 s85 s86 s87 s88 s89 s90 s91 s92 s93 s94 s95 s96 s97 s98 s99 s100 s101 s102 s103 s104 s105 s106 s107 s108 s109 s110 s111 s112 s113 s114 s115 s116 s117 s118 s119 s120 s121 s122 : Value} {fo oo mf cf i : Nat} {sk : ByteArray} {V : World} {K_ : Act → World → Prop}
  (HE : Hid (V.cell? ⟨fo,oo + i,none⟩ = some (.string sk)))
  (HX2 : Hid (i < mf))
  (hQ : ∀ (n4 : Nat)  (W1 : World),Below V.heap.size V W1 → vb W1 n4 9 [.string sk] → V.heap.size ≤ n4 → K_ { tmps:=#[s0,.slice (some ⟨fo,oo,none⟩) mf cf,s2,s3,.pointer none,.int .i64 (6),.slice (some ⟨n4,0,none⟩) 1 1,s7,s8,s9,.int .i64 (i : Int),s11,s12,s13,s14,s15,s16,s17,s18,s19,s20,s21,s22,s23,s24,s25,s26,s27,s28,s29,s30,s31,s32,s33,s34,s35,s36,s37,s38,s39,s40,s41,s42,s43,.slice (some ⟨fo,oo,none⟩) mf cf,.int .i64 (i : Int),.pointer (some ⟨fo,oo + i,none⟩),.string sk,.slice (some ⟨n4,0,none⟩) 1 1,s49,s50,s51,s52,s53,s54,s55,s56,s57,s58,s59,s60,s61,s62,s63,s64,s65,s66,s67,s68,s69,s70,s71,s72,s73,s74,s75,s76,s77,s78,s79,s80,s81,s82,s83,s84,s85,s86,s87,s88,s89,s90,s91,s92,s93,s94,s95,s96,s97,s98,s99,s100,s101,s102,s103,s104,s105,s106,s107,s108,s109,s110,s111,s112,s113,s114,s115,s116,s117,s118,s119,s120,s121,s122],defers:=[] } W1) :
  Go.Code.wp Tryz.prog (rg44 10) (Only K_) { tmps:=#[s0,.slice (some ⟨fo,oo,none⟩) mf cf,s2,s3,s4,s5,s6,s7,s8,s9,.int .i64 (i : Int),s11,s12,s13,s14,s15,s16,s17,s18,s19,s20,s21,s22,s23,s24,s25,s26,s27,s28,s29,s30,s31,s32,s33,s34,s35,s36,s37,s38,s39,s40,s41,s42,s43,s44,s45,s46,s47,s48,s49,s50,s51,s52,s53,s54,s55,s56,s57,s58,s59,s60,s61,s62,s63,s64,s65,s66,s67,s68,s69,s70,s71,s72,s73,s74,s75,s76,s77,s78,s79,s80,s81,s82,s83,s84,s85,s86,s87,s88,s89,s90,s91,s92,s93,s94,s95,s96,s97,s98,s99,s100,s101,s102,s103,s104,s105,s106,s107,s108,s109,s110,s111,s112,s113,s114,s115,s116,s117,s118,s119,s120,s121,s122],defers:=[] } V:=by
 have HQ:=hide hQ;clear hQ
 conv => arg 2;whnf
 refine wp_region_inv2 (fun Lb A W => ∃ (u0 u1 u2 u3 u4 u5 u6 u7 : Bool) (n4 : Nat),Lb = #[u0,u1,u2,u3,u4,u5,u6,u7] ∧ A = ({ tmps:=#[s0,.slice (some ⟨fo,oo,none⟩) mf cf,s2,s3,(bif u5 then .pointer none else s4),(bif u6 then .int .i64 (6) else s5),(bif u7 then .slice (some ⟨n4,0,none⟩) 1 1 else s6),s7,s8,s9,.int .i64 (i : Int),s11,s12,s13,s14,s15,s16,s17,s18,s19,s20,s21,s22,s23,s24,s25,s26,s27,s28,s29,s30,s31,s32,s33,s34,s35,s36,s37,s38,s39,s40,s41,s42,s43,(bif u0 then .slice (some ⟨fo,oo,none⟩) mf cf else s44),(bif u1 then .int .i64 (i : Int) else s45),(bif u2 then .pointer (some ⟨fo,oo + i,none⟩) else s46),(bif u3 then .string sk else s47),(bif u4 then .slice (some ⟨n4,0,none⟩) 1 1 else s48),s49,s50,s51,s52,s53,s54,s55,s56,s57,s58,s59,s60,s61,s62,s63,s64,s65,s66,s67,s68,s69,s70,s71,s72,s73,s74,s75,s76,s77,s78,s79,s80,s81,s82,s83,s84,s85,s86,s87,s88,s89,s90,s91,s92,s93,s94,s95,s96,s97,s98,s99,s100,s101,s102,s103,s104,s105,s106,s107,s108,s109,s110,s111,s112,s113,s114,s115,s116,s117,s118,s119,s120,s121,s122],defers:=[] } : Act) ∧ Below V.heap.size V W ∧ (u4 = true → vb W n4 9 [.string sk] ∧ V.heap.size ≤ n4) ∧ (u7 = true → u0 = true ∧ u1 = true ∧ u2 = true ∧ u3 = true ∧ u4 = true ∧ u5 = true ∧ u6 = true)) (by kernel_rfl) (by kernel_rfl) ?h0 ?hstep ?hend
 case h0 =>
  exact ⟨false,false,false,false,false,false,false,false,0,rfl,rfl,Below.drew (bfl _ _),zf,zf⟩
 case hstep =>
  intro Lb A W hI;obtain ⟨u0,u1,u2,u3,u4,hI⟩:=hI;obtain ⟨u5,u6,u7,n4,hI⟩:=hI;obtain ⟨hLb,hI⟩:=hI;obtain ⟨hA,hI⟩:=hI;obtain ⟨kB,hI⟩:=hI;obtain ⟨k4,hI⟩:=hI;have kF:=hI;clear hI;subst hLb;subst hA;replace kB:=hide kB;replace k4:=hide k4;replace kF:=hide kF;refine ⟨?_,?_,?_,?_,?_,?_,?_,?_,trivial⟩
  ·intro h0 hd K hK
   have z : u0 = false:=h0;have z7_ : u7 = false:=znb fun hu => z.symm.trans ((zu kF hu).1)
   subst z7_;subst z;clear h0 hd;rw [if_pos (by rfl)];go_simp;exact zu hK _ _ ⟨true,u1,u2,u3,u4,u5,u6,false,n4,rfl,rfl,zu kB,zu k4,zf⟩
  ·intro h0 hd K hK
   have z : u1 = false:=h0;have z7_ : u7 = false:=znb fun hu => z.symm.trans ((zu kF hu).2.1)
   subst z7_;subst z;clear h0 hd;rw [if_pos (by rfl)];go_simp;exact zu hK _ _ ⟨u0,true,u2,u3,u4,u5,u6,false,n4,rfl,rfl,zu kB,zu k4,zf⟩
  ·intro h0 hd K hK
   have z : u2 = false:=h0;have z7_ : u7 = false:=znb fun hu => z.symm.trans ((zu kF hu).2.2.1)
   obtain ⟨rfl,rfl⟩ : u0 = true ∧ u1 = true:=by simp [Region.binds] at hd;simp [hd]
   subst z7_;subst z;clear h0 hd;rw [if_pos (by rfl)];have q1 : i < mf:=zu HX2;have q2 : (i : Int) < (mf : Int):=by omega
   go_simp;exact zu hK _ _ ⟨true,true,true,u3,u4,u5,u6,false,n4,rfl,rfl,zu kB,zu k4,zf⟩
  ·intro h0 hd K hK
   have z : u3 = false:=h0;have z7_ : u7 = false:=znb fun hu => z.symm.trans ((zu kF hu).2.2.2.1)
   obtain ⟨rfl⟩ : u2 = true:=by simp [Region.binds] at hd;simp [hd]
   subst z7_;subst z;clear h0 hd;rw [if_pos (by rfl)];have c0:=keep1 (zu kB) (zu HE);go_simp;exact zu hK _ _ ⟨u0,u1,true,true,u4,u5,u6,false,n4,rfl,rfl,zu kB,zu k4,zf⟩
  ·intro h0 hd K hK
   have z : u4 = false:=h0;have z7_ : u7 = false:=znb fun hu => z.symm.trans ((zu kF hu).2.2.2.2.1)
   obtain ⟨rfl⟩ : u3 = true:=by simp [Region.binds] at hd;simp [hd]
   subst z7_;subst z;clear h0 hd;rw [if_pos (by rfl)];go_simp;exact zu hK _ _ ⟨u0,u1,u2,true,true,u5,u6,false,W.heap.size,rfl,rfl,ba (zu kB) _,(fun _ => ⟨vb_new W 9 _ _ rfl,(zu kB).size⟩),zf⟩
  ·intro h0 hd K hK
   have z : u5 = false:=h0;have z7_ : u7 = false:=znb fun hu => z.symm.trans ((zu kF hu).2.2.2.2.2.1)
   subst z7_;subst z;clear h0 hd;rw [if_pos (by rfl)];go_simp;exact zu hK _ _ ⟨u0,u1,u2,u3,u4,true,u6,false,n4,rfl,rfl,zu kB,zu k4,zf⟩
  ·intro h0 hd K hK
   have z : u6 = false:=h0;have z7_ : u7 = false:=znb fun hu => z.symm.trans ((zu kF hu).2.2.2.2.2.2)
   obtain ⟨rfl⟩ : u5 = true:=by simp [Region.binds] at hd;simp [hd]
   subst z7_;subst z;clear h0 hd;rw [if_pos (by rfl)];go_simp;exact zu hK _ _ ⟨u0,u1,u2,u3,u4,true,true,false,n4,rfl,rfl,zu kB,zu k4,zf⟩
  ·intro h0 hd K hK
   have z : u7 = false:=h0
   have zd0 : u0 = true ∧ u1 = true ∧ u2 = true ∧ u3 = true ∧ u4 = true ∧ u5 = true ∧ u6 = true:=by
    simp [Region.binds] at hd;simp [hd]
   have zd : u0 = true ∧ u1 = true ∧ u2 = true ∧ u3 = true ∧ u4 = true ∧ u5 = true ∧ u6 = true:=⟨zd0.1,zd0.2.1,zd0.2.2.1,zd0.2.2.2.1,zd0.2.2.2.2.1,zd0.2.2.2.2.2.1,zd0.2.2.2.2.2.2⟩
   obtain ⟨rfl,rfl,rfl,rfl,rfl,rfl,rfl⟩:=zd;subst z;clear h0 hd;rw [if_pos (by rfl)];go_simp;exact zu hK _ _ ⟨true,true,true,true,true,true,true,true,n4,rfl,rfl,zu kB,zu k4,(fun _ => ⟨rfl,rfl,rfl,rfl,rfl,rfl,rfl⟩)⟩
 case hend =>
  intro Lb A W hI;obtain ⟨u0,u1,u2,u3,u4,hI⟩:=hI;obtain ⟨u5,u6,u7,n4,hI⟩:=hI;obtain ⟨hLb,hI⟩:=hI;obtain ⟨hA,hI⟩:=hI;obtain ⟨kB,hI⟩:=hI;obtain ⟨k4,hI⟩:=hI;have kF:=hI;clear hI;subst hLb;subst hA;intro hL
  have hl : u0 = true ∧ u1 = true ∧ u2 = true ∧ u3 = true ∧ u4 = true ∧ u5 = true ∧ u6 = true ∧ u7 = true:=by
   have h2:=congrArg Array.toList hL
   simpa [List.replicate] using h2
  obtain ⟨rfl,rfl,rfl,rfl,rfl,rfl,rfl,rfl⟩:=hl;exact zu HQ n4  W kB (k4 rfl).1 (k4 rfl).2
end Go.Proofs.YtkiplmabjeadgaaGreat
