/- Statements of the program's do that draw their order. -/
import Derived.Test.YtkiplmabjeadgaaGreatRunesR
import Derived.Test.YtkiplmabjeadgaaGreatBpWoR
namespace Go.Proofs.YtkiplmabjeadgaaGreat
set_option maxRecDepth 100000
set_option maxHeartbeats 16000000
open Go.ChangeShapes Go.WideShapes Go.ChangeAt Go.RowKit
set_option linter.unusedVariables false
set_option linter.unusedSimpArgs false
def regOfR (id : Nat) : Go.Code → Option Go.Code
 | .region i ops d => if i == id then some (.region i ops d) else none
 | .seq a b => match regOfR id a with | some x => some x | none => regOfR id b
 | .cond _ a b => match regOfR id a with | some x => some x | none => regOfR id b
 | .block _ c | .loop c | .scope c => regOfR id c
 | .rangeFunc _ _ a c => match regOfR id a with | some x => some x | none => regOfR id c
 | _ => none
noncomputable def rg118 (id : Nat) : Go.Code:=match Tryz.f118.body with | some c => (regOfR id c).getD .skip | none => .skip
attribute [local go_sem] Oper.semAt_some
theorem pd3 {s0 s2 s4 s5 s6 s7 s8 s9 s10 s11 s12 s13 s14 s15 s16 s17 s18 s19 s20 s21 s22 s23 s24 s25 s26 s27 s28 s29 s30 s31 s32 s33 s34 s35 s36 s37 s38 s39 s40 s41 s42 s43 s44 s45 s46 s47 s48 s49 s50 s51 s52 s53 s54 s55 s56 s57 s58 s59 s60 s61 s62 s63 s64 s65 s66 s67 s68 s69 s70 s71 s72 s73 s74 s75 : Value} {b3 g bm n cd : Nat} {nm : ByteArray} {ud : Option Addr} {Z_ : World → Prop} {V : World} {K_ : Act → World → Prop}
  (HB0 : Hid (V.cell? ⟨b3,0,none⟩ = some (.pointer (some ⟨g,0,none⟩)))) (HG3 : Hid (V.cell? ⟨g,3,none⟩ = some (.map (some bm)))) (HG1 : Hid (V.cell? ⟨g,1,none⟩ = some (.slice ud n cd)))
  (HF10 : Hid (∀ Xw,Below V.heap.size V Xw → ∃ w',(Instr.mapUpdate 82 (.map (some bm)) (.string nm) (.int .i64 (n : Int))).run Tryz.prog Xw = .ok () w' ∧ Z_ w'))
  (hQ : ∀ W9,Z_ W9 → K_ { tmps:=#[s0,.string nm,s2,.pointer (some ⟨b3,0,none⟩),s4,s5,s6,s7,s8,s9,s10,s11,s12,s13,s14,s15,s16,s17,s18,s19,s20,s21,s22,s23,s24,s25,s26,s27,s28,s29,s30,.pointer (some ⟨g,0,none⟩),.pointer (some ⟨g,0,none⟩),.pointer (some ⟨g,3,none⟩),.map (some bm),.string nm,.pointer (some ⟨g,0,none⟩),.pointer (some ⟨g,0,none⟩),.pointer (some ⟨g,1,none⟩),.slice ud n cd,.int .i64 (n : Int),s41,s42,s43,s44,s45,s46,s47,s48,s49,s50,s51,s52,s53,s54,s55,s56,s57,s58,s59,s60,s61,s62,s63,s64,s65,s66,s67,s68,s69,s70,s71,s72,s73,s74,s75],defers:=[] } W9) :
  Go.Code.wp Tryz.prog (rg118 3) (Only K_) { tmps:=#[s0,.string nm,s2,.pointer (some ⟨b3,0,none⟩),s4,s5,s6,s7,s8,s9,s10,s11,s12,s13,s14,s15,s16,s17,s18,s19,s20,s21,s22,s23,s24,s25,s26,s27,s28,s29,s30,s31,s32,s33,s34,s35,s36,s37,s38,s39,s40,s41,s42,s43,s44,s45,s46,s47,s48,s49,s50,s51,s52,s53,s54,s55,s56,s57,s58,s59,s60,s61,s62,s63,s64,s65,s66,s67,s68,s69,s70,s71,s72,s73,s74,s75],defers:=[] } V:=by
 have HQ:=hide hQ;clear hQ
 conv => arg 2;whnf
 refine wp_region_inv2 (fun Lb A W => ∃ (u0 u1 u2 u3 u4 u5 u6 u7 u8 u9 u10 : Bool) (dm : Nat),Lb = #[u0,u1,u2,u3,u4,u5,u6,u7,u8,u9,u10] ∧ A = ({ tmps:=#[s0,.string nm,s2,.pointer (some ⟨b3,0,none⟩),s4,s5,s6,s7,s8,s9,s10,s11,s12,s13,s14,s15,s16,s17,s18,s19,s20,s21,s22,s23,s24,s25,s26,s27,s28,s29,s30,(bif u0 then .pointer (some ⟨g,0,none⟩) else s31),(bif u1 then .pointer (some ⟨g,0,none⟩) else s32),(bif u2 then .pointer (some ⟨g,3,none⟩) else s33),(bif u3 then .map (some bm) else s34),(bif u4 then .string nm else s35),(bif u5 then .pointer (some ⟨g,0,none⟩) else s36),(bif u6 then .pointer (some ⟨g,0,none⟩) else s37),(bif u7 then .pointer (some ⟨g,1,none⟩) else s38),(bif u8 then .slice ud n cd else s39),(bif u9 then .int .i64 (n : Int) else s40),s41,s42,s43,s44,s45,s46,s47,s48,s49,s50,s51,s52,s53,s54,s55,s56,s57,s58,s59,s60,s61,s62,s63,s64,s65,s66,s67,s68,s69,s70,s71,s72,s73,s74,s75],defers:=[] } : Act) ∧ (u10 = false → Below V.heap.size V W) ∧ (u10 = true → Z_ W) ∧ (u10 = true → u0 = true ∧ u1 = true ∧ u2 = true ∧ u3 = true ∧ u4 = true ∧ u5 = true ∧ u6 = true ∧ u7 = true ∧ u8 = true ∧ u9 = true)) (by kernel_rfl) (by kernel_rfl) ?h0 ?hstep ?hend
 case h0 =>
  exact ⟨false,false,false,false,false,false,false,false,false,false,false,0,rfl,rfl,(fun _ => Below.drew (bfl _ _)),zf,zf⟩
 case hstep =>
  intro Lb A W hI;obtain ⟨u0,u1,u2,u3,u4,hI⟩:=hI;obtain ⟨u5,u6,u7,u8,u9,hI⟩:=hI;obtain ⟨u10,dm,hI⟩:=hI;obtain ⟨hLb,hI⟩:=hI;obtain ⟨hA,hI⟩:=hI;obtain ⟨kB,hI⟩:=hI;obtain ⟨kZ,hI⟩:=hI;have kF:=hI;clear hI;subst hLb;subst hA;replace kB:=hide kB;replace kZ:=hide kZ;replace kF:=hide kF;refine ⟨?_,?_,?_,?_,?_,?_,?_,?_,?_,?_,?_,trivial⟩
  ·intro h0 hd K hK
   have z : u0 = false:=h0;have z10_ : u10 = false:=znb fun hu => z.symm.trans ((zu kF hu).1)
   subst z10_;subst z;clear h0 hd;rw [if_pos (by rfl)];have c0:=keep1 (zu kB rfl) (zu HB0);go_simp;exact zu hK _ _ ⟨true,u1,u2,u3,u4,u5,u6,u7,u8,u9,false,dm,rfl,rfl,zu kB,zf,zf⟩
  ·intro h0 hd K hK
   have z : u1 = false:=h0;have z10_ : u10 = false:=znb fun hu => z.symm.trans ((zu kF hu).2.1)
   obtain ⟨rfl⟩ : u0 = true:=by simp [Region.binds] at hd;simp [hd]
   subst z10_;subst z;clear h0 hd;rw [if_pos (by rfl)];go_simp;exact zu hK _ _ ⟨true,true,u2,u3,u4,u5,u6,u7,u8,u9,false,dm,rfl,rfl,zu kB,zf,zf⟩
  ·intro h0 hd K hK
   have z : u2 = false:=h0;have z10_ : u10 = false:=znb fun hu => z.symm.trans ((zu kF hu).2.2.1)
   obtain ⟨rfl⟩ : u1 = true:=by simp [Region.binds] at hd;simp [hd]
   subst z10_;subst z;clear h0 hd;rw [if_pos (by rfl)];go_simp;exact zu hK _ _ ⟨u0,true,true,u3,u4,u5,u6,u7,u8,u9,false,dm,rfl,rfl,zu kB,zf,zf⟩
  ·intro h0 hd K hK
   have z : u3 = false:=h0;have z10_ : u10 = false:=znb fun hu => z.symm.trans ((zu kF hu).2.2.2.1)
   obtain ⟨rfl⟩ : u2 = true:=by simp [Region.binds] at hd;simp [hd]
   subst z10_;subst z;clear h0 hd;rw [if_pos (by rfl)];have c0:=keep1 (zu kB rfl) (zu HG3);go_simp;exact zu hK _ _ ⟨u0,u1,true,true,u4,u5,u6,u7,u8,u9,false,dm,rfl,rfl,zu kB,zf,zf⟩
  ·intro h0 hd K hK
   have z : u4 = false:=h0;have z10_ : u10 = false:=znb fun hu => z.symm.trans ((zu kF hu).2.2.2.2.1)
   subst z10_;subst z;clear h0 hd;rw [if_pos (by rfl)];go_simp;exact zu hK _ _ ⟨u0,u1,u2,u3,true,u5,u6,u7,u8,u9,false,dm,rfl,rfl,zu kB,zf,zf⟩
  ·intro h0 hd K hK
   have z : u5 = false:=h0;have z10_ : u10 = false:=znb fun hu => z.symm.trans ((zu kF hu).2.2.2.2.2.1)
   subst z10_;subst z;clear h0 hd;rw [if_pos (by rfl)];have c0:=keep1 (zu kB rfl) (zu HB0);go_simp;exact zu hK _ _ ⟨u0,u1,u2,u3,u4,true,u6,u7,u8,u9,false,dm,rfl,rfl,zu kB,zf,zf⟩
  ·intro h0 hd K hK
   have z : u6 = false:=h0;have z10_ : u10 = false:=znb fun hu => z.symm.trans ((zu kF hu).2.2.2.2.2.2.1)
   obtain ⟨rfl⟩ : u5 = true:=by simp [Region.binds] at hd;simp [hd]
   subst z10_;subst z;clear h0 hd;rw [if_pos (by rfl)];go_simp;exact zu hK _ _ ⟨u0,u1,u2,u3,u4,true,true,u7,u8,u9,false,dm,rfl,rfl,zu kB,zf,zf⟩
  ·intro h0 hd K hK
   have z : u7 = false:=h0;have z10_ : u10 = false:=znb fun hu => z.symm.trans ((zu kF hu).2.2.2.2.2.2.2.1)
   obtain ⟨rfl⟩ : u6 = true:=by simp [Region.binds] at hd;simp [hd]
   subst z10_;subst z;clear h0 hd;rw [if_pos (by rfl)];go_simp;exact zu hK _ _ ⟨u0,u1,u2,u3,u4,u5,true,true,u8,u9,false,dm,rfl,rfl,zu kB,zf,zf⟩
  ·intro h0 hd K hK
   have z : u8 = false:=h0;have z10_ : u10 = false:=znb fun hu => z.symm.trans ((zu kF hu).2.2.2.2.2.2.2.2.1)
   obtain ⟨rfl⟩ : u7 = true:=by simp [Region.binds] at hd;simp [hd]
   subst z10_;subst z;clear h0 hd;rw [if_pos (by rfl)];have c0:=keep1 (zu kB rfl) (zu HG1);go_simp;exact zu hK _ _ ⟨u0,u1,u2,u3,u4,u5,u6,true,true,u9,false,dm,rfl,rfl,zu kB,zf,zf⟩
  ·intro h0 hd K hK
   have z : u9 = false:=h0;have z10_ : u10 = false:=znb fun hu => z.symm.trans ((zu kF hu).2.2.2.2.2.2.2.2.2)
   obtain ⟨rfl⟩ : u8 = true:=by simp [Region.binds] at hd;simp [hd]
   subst z10_;subst z;clear h0 hd;rw [if_pos (by rfl)];go_simp;exact zu hK _ _ ⟨u0,u1,u2,u3,u4,u5,u6,u7,true,true,false,dm,rfl,rfl,zu kB,zf,zf⟩
  ·intro h0 hd K hK
   have z : u10 = false:=h0
   have zd0 : u0 = true ∧ u1 = true ∧ u2 = true ∧ u3 = true ∧ u4 = true ∧ u5 = true ∧ u6 = true ∧ u7 = true ∧ u8 = true ∧ u9 = true:=by
    simp [Region.binds] at hd;simp [hd]
   have zd : u0 = true ∧ u1 = true ∧ u2 = true ∧ u3 = true ∧ u4 = true ∧ u5 = true ∧ u6 = true ∧ u7 = true ∧ u8 = true ∧ u9 = true:=⟨zd0.1,zd0.2.1,zd0.2.2.1,zd0.2.2.2.1,zd0.2.2.2.2.1,zd0.2.2.2.2.2.1,zd0.2.2.2.2.2.2.1,zd0.2.2.2.2.2.2.2.1,zd0.2.2.2.2.2.2.2.2.1,zd0.2.2.2.2.2.2.2.2.2⟩
   obtain ⟨rfl,rfl,rfl,rfl,rfl,rfl,rfl,rfl,rfl,rfl⟩:=zd;subst z;clear h0 hd;rw [if_pos (by rfl)];obtain ⟨w8,hr8,hz8⟩:=zu HF10 _ (zu kB rfl);go_simp;exact zu hK _ _ ⟨true,true,true,true,true,true,true,true,true,true,true,dm,rfl,rfl,zt,(fun _ => hz8),(fun _ => ⟨rfl,rfl,rfl,rfl,rfl,rfl,rfl,rfl,rfl,rfl⟩)⟩
 case hend =>
  intro Lb A W hI;obtain ⟨u0,u1,u2,u3,u4,hI⟩:=hI;obtain ⟨u5,u6,u7,u8,u9,hI⟩:=hI;obtain ⟨u10,dm,hI⟩:=hI;obtain ⟨hLb,hI⟩:=hI;obtain ⟨hA,hI⟩:=hI;obtain ⟨kB,hI⟩:=hI;obtain ⟨kZ,hI⟩:=hI;have kF:=hI;clear hI;subst hLb;subst hA;intro hL
  have hl : u0 = true ∧ u1 = true ∧ u2 = true ∧ u3 = true ∧ u4 = true ∧ u5 = true ∧ u6 = true ∧ u7 = true ∧ u8 = true ∧ u9 = true ∧ u10 = true:=by
   have h2:=congrArg Array.toList hL
   simpa [List.replicate] using h2
  obtain ⟨rfl,rfl,rfl,rfl,rfl,rfl,rfl,rfl,rfl,rfl,rfl⟩:=hl;exact zu HQ W (kZ rfl)
theorem pd10 {s0 s1 s2 s4 s5 s6 s7 s8 s10 s11 s12 s13 s14 s15 s16 s17 s18 s19 s20 s21 s22 s23 s24 s25 s26 s27 s28 s29 s30 s31 s32 s33 s34 s35 s36 s37 s38 s39 s40 s41 s42 s43 s44 s45 s46 s47 s48 s49 s50 s51 s52 s53 s54 s55 s56 s57 s58 s59 s60 s61 s62 s63 s64 s65 s66 s67 s68 s69 s70 s71 s72 s73 s74 s75 : Value} {b3 bp g gc x y z kk l : Nat} {V : World} {K_ : Act → World → Prop}
  (HB0 : Hid (V.cell? ⟨b3,0,none⟩ = some (.pointer (some ⟨g,0,none⟩)))) (HG0 : Hid (V.cell? ⟨g,0,none⟩ = some (.slice (some ⟨gc,0,none⟩) 13824 13824))) (HP0 : Hid (V.cell? ⟨bp,0,none⟩ = some (.int .i64 (x : Int)))) (HP1 : Hid (V.cell? ⟨bp,1,none⟩ = some (.int .i64 (y : Int)))) (HP2 : Hid (V.cell? ⟨bp,2,none⟩ = some (.int .i64 (z : Int))))
  (HF5 : Hid (∀ Xw,Below V.heap.size V Xw → Calls Tryz.prog 100 #[.agg #[.int .i64 (x : Int),.int .i64 (y : Int),.int .i64 (z : Int)]] Xw fun e w' => e = .returned (.int .i64 (kk : Int)) ∧ Below Xw.heap.size Xw w'))
  (HX6 : Hid (kk < 13824))
  (hQ : ∀  (W1 : World),Below V.heap.size V W1 → K_ { tmps:=#[s0,s1,s2,.pointer (some ⟨b3,0,none⟩),s4,s5,s6,s7,s8,.pointer (some ⟨bp,0,none⟩),.pointer (some ⟨gc,kk * 2,none⟩),s11,s12,s13,s14,s15,s16,s17,s18,s19,s20,s21,s22,s23,s24,s25,s26,s27,s28,s29,s30,s31,s32,s33,s34,s35,s36,s37,s38,s39,s40,s41,s42,s43,s44,s45,s46,s47,s48,s49,s50,s51,s52,.pointer (some ⟨g,0,none⟩),.pointer (some ⟨g,0,none⟩),.pointer (some ⟨g,0,none⟩),.slice (some ⟨gc,0,none⟩) 13824 13824,.agg #[.int .i64 (x : Int),.int .i64 (y : Int),.int .i64 (z : Int)],.int .i64 (kk : Int),.pointer (some ⟨gc,kk * 2,none⟩),s60,s61,s62,s63,s64,s65,s66,s67,s68,s69,s70,s71,s72,s73,s74,s75],defers:=[] } W1) :
  Go.Code.wpIn (Fence.wide.inRound l) 0 Tryz.prog (rg118 10) (Only K_) { tmps:=#[s0,s1,s2,.pointer (some ⟨b3,0,none⟩),s4,s5,s6,s7,s8,.pointer (some ⟨bp,0,none⟩),s10,s11,s12,s13,s14,s15,s16,s17,s18,s19,s20,s21,s22,s23,s24,s25,s26,s27,s28,s29,s30,s31,s32,s33,s34,s35,s36,s37,s38,s39,s40,s41,s42,s43,s44,s45,s46,s47,s48,s49,s50,s51,s52,s53,s54,s55,s56,s57,s58,s59,s60,s61,s62,s63,s64,s65,s66,s67,s68,s69,s70,s71,s72,s73,s74,s75],defers:=[] } V:=by
 have HQ:=hide hQ;clear hQ
 conv => arg 4;whnf
 refine wpIn_region_inv (fun Lb A W => ∃ (u0 u1 u2 u3 u4 u5 u6 u7 : Bool) (dm : Nat),Lb = #[u0,u1,u2,u3,u4,u5,u6,u7] ∧ A = ({ tmps:=#[s0,s1,s2,.pointer (some ⟨b3,0,none⟩),s4,s5,s6,s7,s8,.pointer (some ⟨bp,0,none⟩),(bif u7 then .pointer (some ⟨gc,kk * 2,none⟩) else s10),s11,s12,s13,s14,s15,s16,s17,s18,s19,s20,s21,s22,s23,s24,s25,s26,s27,s28,s29,s30,s31,s32,s33,s34,s35,s36,s37,s38,s39,s40,s41,s42,s43,s44,s45,s46,s47,s48,s49,s50,s51,s52,(bif u0 then .pointer (some ⟨g,0,none⟩) else s53),(bif u1 then .pointer (some ⟨g,0,none⟩) else s54),(bif u2 then .pointer (some ⟨g,0,none⟩) else s55),(bif u3 then .slice (some ⟨gc,0,none⟩) 13824 13824 else s56),(bif u4 then .agg #[.int .i64 (x : Int),.int .i64 (y : Int),.int .i64 (z : Int)] else s57),(bif u5 then .int .i64 (kk : Int) else s58),(bif u6 then .pointer (some ⟨gc,kk * 2,none⟩) else s59),s60,s61,s62,s63,s64,s65,s66,s67,s68,s69,s70,s71,s72,s73,s74,s75],defers:=[] } : Act) ∧ Below V.heap.size V W ∧ (u7 = true → u0 = true ∧ u1 = true ∧ u2 = true ∧ u3 = true ∧ u4 = true ∧ u5 = true ∧ u6 = true)) (by kernel_rfl) (by kernel_rfl) ?h0 ?hstep ?hend
 case h0 =>
  exact ⟨false,false,false,false,false,false,false,false,0,rfl,rfl,Below.drew (bfl _ _),zf⟩
 case hstep =>
  intro Lb A W hI;obtain ⟨u0,u1,u2,u3,u4,hI⟩:=hI;obtain ⟨u5,u6,u7,dm,hI⟩:=hI;obtain ⟨hLb,hI⟩:=hI;obtain ⟨hA,hI⟩:=hI;obtain ⟨kB,hI⟩:=hI;have kF:=hI;clear hI;subst hLb;subst hA;replace kB:=hide kB;replace kF:=hide kF;refine ⟨?_,?_,?_,?_,?_,?_,?_,?_,trivial⟩
  ·intro h0 hd K hK
   have z : u0 = false:=h0;have z7_ : u7 = false:=znb fun hu => z.symm.trans ((zu kF hu).1)
   subst z7_;subst z;clear h0 hd;rw [if_pos (by rfl)];have c0:=keep1 (zu kB) (zu HB0)
   (unfold Oper.wpIn;refine ⟨fun _ _ => trivial,?_⟩;go_simp)
   exact zu hK _ _ ⟨true,u1,u2,u3,u4,u5,u6,false,dm,rfl,rfl,zu kB,zf⟩
  ·intro h0 hd K hK
   have z : u1 = false:=h0;have z7_ : u7 = false:=znb fun hu => z.symm.trans ((zu kF hu).2.1)
   obtain ⟨rfl⟩ : u0 = true:=by simp [Region.binds] at hd;simp [hd]
   subst z7_;subst z;clear h0 hd;rw [if_pos (by rfl)]
   (unfold Oper.wpIn;refine ⟨fun _ _ => trivial,?_⟩;go_simp)
   exact zu hK _ _ ⟨true,true,u2,u3,u4,u5,u6,false,dm,rfl,rfl,zu kB,zf⟩
  ·intro h0 hd K hK
   have z : u2 = false:=h0;have z7_ : u7 = false:=znb fun hu => z.symm.trans ((zu kF hu).2.2.1)
   obtain ⟨rfl⟩ : u1 = true:=by simp [Region.binds] at hd;simp [hd]
   subst z7_;subst z;clear h0 hd;rw [if_pos (by rfl)]
   (unfold Oper.wpIn;refine ⟨fun _ _ => trivial,?_⟩;go_simp)
   exact zu hK _ _ ⟨u0,true,true,u3,u4,u5,u6,false,dm,rfl,rfl,zu kB,zf⟩
  ·intro h0 hd K hK
   have z : u3 = false:=h0;have z7_ : u7 = false:=znb fun hu => z.symm.trans ((zu kF hu).2.2.2.1)
   obtain ⟨rfl⟩ : u2 = true:=by simp [Region.binds] at hd;simp [hd]
   subst z7_;subst z;clear h0 hd;rw [if_pos (by rfl)];have c0:=keep1 (zu kB) (zu HG0)
   (unfold Oper.wpIn;refine ⟨fun _ _ => trivial,?_⟩;go_simp)
   exact zu hK _ _ ⟨u0,u1,true,true,u4,u5,u6,false,dm,rfl,rfl,zu kB,zf⟩
  ·intro h0 hd K hK
   have z : u4 = false:=h0;have z7_ : u7 = false:=znb fun hu => z.symm.trans ((zu kF hu).2.2.2.2.1)
   subst z7_;subst z;clear h0 hd;rw [if_pos (by rfl)];have c0:=keep1 (zu kB) (zu HP0);have c1:=keep1 (zu kB) (zu HP1);have c2:=keep1 (zu kB) (zu HP2)
   (unfold Oper.wpIn;refine ⟨fun _ _ => trivial,?_⟩;go_simp)
   exact zu hK _ _ ⟨u0,u1,u2,u3,true,u5,u6,false,dm,rfl,rfl,zu kB,zf⟩
  ·intro h0 hd K hK
   have z : u5 = false:=h0;have z7_ : u7 = false:=znb fun hu => z.symm.trans ((zu kF hu).2.2.2.2.2.1)
   obtain ⟨rfl⟩ : u4 = true:=by simp [Region.binds] at hd;simp [hd]
   subst z7_;subst z;clear h0 hd;rw [if_pos (by rfl)]
   (unfold Oper.wpIn;refine ⟨fun _ _ => trivial,?_⟩;go_simp)
   refine ⟨by first | rfl | trivial | (intro h;cases h),(CallsIn.inRound l (callsIn_wide.2 (zu HF5 W (zu kB)))).mono ?_⟩;rintro e w8 ⟨rfl,hb8⟩;exact zu hK _ _ ⟨u0,u1,u2,u3,true,true,u6,false,dm,rfl,rfl,bc (zu kB) hb8,zf⟩
  ·intro h0 hd K hK
   have z : u6 = false:=h0;have z7_ : u7 = false:=znb fun hu => z.symm.trans ((zu kF hu).2.2.2.2.2.2)
   obtain ⟨rfl,rfl⟩ : u3 = true ∧ u5 = true:=by simp [Region.binds] at hd;simp [hd]
   subst z7_;subst z;clear h0 hd;rw [if_pos (by rfl)];have q1 : kk < 13824:=zu HX6;have q2 : (kk : Int) < (13824 : Int):=by omega
   (unfold Oper.wpIn;refine ⟨fun _ _ => trivial,?_⟩;go_simp)
   exact zu hK _ _ ⟨u0,u1,u2,true,u4,true,true,false,dm,rfl,rfl,zu kB,zf⟩
  ·intro h0 hd K hK
   have z : u7 = false:=h0
   have zd0 : u0 = true ∧ u1 = true ∧ u2 = true ∧ u3 = true ∧ u4 = true ∧ u5 = true ∧ u6 = true:=by
    simp [Region.binds] at hd;simp [hd]
   have zd : u0 = true ∧ u1 = true ∧ u2 = true ∧ u3 = true ∧ u4 = true ∧ u5 = true ∧ u6 = true:=⟨zd0.1,zd0.2.1,zd0.2.2.1,zd0.2.2.2.1,zd0.2.2.2.2.1,zd0.2.2.2.2.2.1,zd0.2.2.2.2.2.2⟩
   obtain ⟨rfl,rfl,rfl,rfl,rfl,rfl,rfl⟩:=zd;subst z;clear h0 hd;rw [if_pos (by rfl)]
   (unfold Oper.wpIn;refine ⟨fun _ _ => trivial,?_⟩;go_simp)
   exact zu hK _ _ ⟨true,true,true,true,true,true,true,true,dm,rfl,rfl,zu kB,(fun _ => ⟨rfl,rfl,rfl,rfl,rfl,rfl,rfl⟩)⟩
 case hend =>
  intro Lb A W hI;obtain ⟨u0,u1,u2,u3,u4,hI⟩:=hI;obtain ⟨u5,u6,u7,dm,hI⟩:=hI;obtain ⟨hLb,hI⟩:=hI;obtain ⟨hA,hI⟩:=hI;obtain ⟨kB,hI⟩:=hI;have kF:=hI;clear hI;subst hLb;subst hA;intro hL
  have hl : u0 = true ∧ u1 = true ∧ u2 = true ∧ u3 = true ∧ u4 = true ∧ u5 = true ∧ u6 = true ∧ u7 = true:=by
   have h2:=congrArg Array.toList hL
   simpa [List.replicate] using h2
  obtain ⟨rfl,rfl,rfl,rfl,rfl,rfl,rfl,rfl⟩:=hl;exact zu HQ   W kB
theorem pd11 {s0 s1 s2 s3 s4 s5 s7 s8 s9 s11 s12 s13 s14 s15 s16 s17 s18 s19 s20 s21 s22 s23 s24 s25 s26 s27 s28 s29 s30 s31 s32 s33 s34 s35 s36 s37 s38 s39 s40 s41 s42 s43 s44 s45 s46 s47 s48 s49 s50 s51 s52 s53 s54 s55 s56 s57 s58 s59 s60 s61 s62 s63 s64 s65 s66 s67 s68 s69 s70 s71 s72 s73 s74 s75 : Value} {b6 gc kk l : Nat} {fb fl : Bool} {V : World} {K_ : Act → World → Prop}
  (HC0 : Hid (V.cell? ⟨gc,kk * 2,none⟩ = some (.bool (fb)))) (H60 : Hid (V.cell? ⟨b6,0,none⟩ = some (.bool (fl))))
  (hQ : ∀  (W1 : World),Below V.heap.size V W1 → K_ { tmps:=#[s0,s1,s2,s3,s4,s5,.pointer (some ⟨b6,0,none⟩),s7,s8,s9,.pointer (some ⟨gc,kk * 2,none⟩),s11,s12,s13,s14,s15,s16,s17,s18,s19,s20,s21,s22,s23,s24,s25,s26,s27,s28,s29,s30,s31,s32,s33,s34,s35,s36,s37,s38,s39,s40,s41,s42,s43,s44,s45,s46,s47,s48,s49,s50,s51,s52,s53,s54,s55,s56,s57,s58,s59,.pointer (some ⟨gc,kk * 2,none⟩),.pointer (some ⟨gc,kk * 2,none⟩),.pointer (some ⟨gc,kk * 2,none⟩),.bool (fb),.bool (fl),.bool (fb != fl),s66,s67,s68,s69,s70,s71,s72,s73,s74,s75],defers:=[] } W1) :
  Go.Code.wpIn (Fence.wide.inRound l) 0 Tryz.prog (rg118 11) (Only K_) { tmps:=#[s0,s1,s2,s3,s4,s5,.pointer (some ⟨b6,0,none⟩),s7,s8,s9,.pointer (some ⟨gc,kk * 2,none⟩),s11,s12,s13,s14,s15,s16,s17,s18,s19,s20,s21,s22,s23,s24,s25,s26,s27,s28,s29,s30,s31,s32,s33,s34,s35,s36,s37,s38,s39,s40,s41,s42,s43,s44,s45,s46,s47,s48,s49,s50,s51,s52,s53,s54,s55,s56,s57,s58,s59,s60,s61,s62,s63,s64,s65,s66,s67,s68,s69,s70,s71,s72,s73,s74,s75],defers:=[] } V:=by
 have HQ:=hide hQ;clear hQ
 conv => arg 4;whnf
 refine wpIn_region_inv (fun Lb A W => ∃ (u0 u1 u2 u3 u4 u5 : Bool) (dm : Nat),Lb = #[u0,u1,u2,u3,u4,u5] ∧ A = ({ tmps:=#[s0,s1,s2,s3,s4,s5,.pointer (some ⟨b6,0,none⟩),s7,s8,s9,.pointer (some ⟨gc,kk * 2,none⟩),s11,s12,s13,s14,s15,s16,s17,s18,s19,s20,s21,s22,s23,s24,s25,s26,s27,s28,s29,s30,s31,s32,s33,s34,s35,s36,s37,s38,s39,s40,s41,s42,s43,s44,s45,s46,s47,s48,s49,s50,s51,s52,s53,s54,s55,s56,s57,s58,s59,(bif u0 then .pointer (some ⟨gc,kk * 2,none⟩) else s60),(bif u1 then .pointer (some ⟨gc,kk * 2,none⟩) else s61),(bif u2 then .pointer (some ⟨gc,kk * 2,none⟩) else s62),(bif u3 then .bool (fb) else s63),(bif u4 then .bool (fl) else s64),(bif u5 then .bool (fb != fl) else s65),s66,s67,s68,s69,s70,s71,s72,s73,s74,s75],defers:=[] } : Act) ∧ Below V.heap.size V W ∧ (u1 = true → u0 = true) ∧ (u2 = true → u1 = true) ∧ (u3 = true → u2 = true) ∧ (u5 = true → u0 = true ∧ u1 = true ∧ u2 = true ∧ u3 = true ∧ u4 = true)) (by kernel_rfl) (by kernel_rfl) ?h0 ?hstep ?hend
 case h0 =>
  exact ⟨false,false,false,false,false,false,0,rfl,rfl,Below.drew (bfl _ _),zf,zf,zf,zf⟩
 case hstep =>
  intro Lb A W hI;obtain ⟨u0,u1,u2,u3,u4,hI⟩:=hI;obtain ⟨u5,dm,hI⟩:=hI;obtain ⟨hLb,hI⟩:=hI;obtain ⟨hA,hI⟩:=hI;obtain ⟨kB,hI⟩:=hI;obtain ⟨l1,hI⟩:=hI;obtain ⟨l2,hI⟩:=hI;obtain ⟨l3,hI⟩:=hI;have kF:=hI;clear hI;subst hLb;subst hA;replace kB:=hide kB;replace l1:=hide l1;replace l2:=hide l2;replace l3:=hide l3;replace kF:=hide kF;refine ⟨?_,?_,?_,?_,?_,?_,trivial⟩
  ·intro h0 hd K hK
   have z : u0 = false:=h0;have z5_ : u5 = false:=znb fun hu => z.symm.trans ((zu kF hu).1)
   subst z5_;subst z;clear h0 hd;rw [if_pos (by rfl)]
   (unfold Oper.wpIn;refine ⟨fun _ _ => trivial,?_⟩;go_simp)
   exact zu hK _ _ ⟨true,u1,u2,u3,u4,false,dm,rfl,rfl,zu kB,(fun h => rfl),zu l2,zu l3,zf⟩
  ·intro h0 hd K hK
   have z : u1 = false:=h0;have z5_ : u5 = false:=znb fun hu => z.symm.trans ((zu kF hu).2.1)
   obtain ⟨rfl⟩ : u0 = true:=by simp [Region.binds] at hd;simp [hd]
   subst z5_;subst z;clear h0 hd;rw [if_pos (by rfl)]
   (unfold Oper.wpIn;refine ⟨fun _ _ => trivial,?_⟩;go_simp)
   exact zu hK _ _ ⟨true,true,u2,u3,u4,false,dm,rfl,rfl,zu kB,(fun _ => rfl),(fun h => rfl),zu l3,zf⟩
  ·intro h0 hd K hK
   have z : u2 = false:=h0;have z5_ : u5 = false:=znb fun hu => z.symm.trans ((zu kF hu).2.2.1)
   obtain ⟨rfl⟩ : u1 = true:=by simp [Region.binds] at hd;simp [hd]
   subst z5_;subst z;clear h0 hd;rw [if_pos (by rfl)]
   (unfold Oper.wpIn;refine ⟨fun _ _ => trivial,?_⟩;go_simp)
   exact zu hK _ _ ⟨u0,true,true,u3,u4,false,dm,rfl,rfl,zu kB,zu l1,(fun _ => rfl),(fun h => rfl),zf⟩
  ·intro h0 hd K hK
   have z : u3 = false:=h0;have z5_ : u5 = false:=znb fun hu => z.symm.trans ((zu kF hu).2.2.2.1)
   obtain ⟨rfl⟩ : u2 = true:=by simp [Region.binds] at hd;simp [hd]
   subst z5_;subst z;clear h0 hd;rw [if_pos (by rfl)];have c0:=keep1 (zu kB) (zu HC0)
   (unfold Oper.wpIn;refine ⟨fun _ _ => trivial,?_⟩;go_simp)
   exact zu hK _ _ ⟨u0,u1,true,true,u4,false,dm,rfl,rfl,zu kB,zu l1,zu l2,(fun _ => rfl),zf⟩
  ·intro h0 hd K hK
   have z : u4 = false:=h0;have z5_ : u5 = false:=znb fun hu => z.symm.trans ((zu kF hu).2.2.2.2)
   subst z5_;subst z;clear h0 hd;rw [if_pos (by rfl)];have c0:=keep1 (zu kB) (zu H60)
   (unfold Oper.wpIn;refine ⟨fun _ _ => trivial,?_⟩;go_simp)
   exact zu hK _ _ ⟨u0,u1,u2,u3,true,false,dm,rfl,rfl,zu kB,zu l1,zu l2,zu l3,zf⟩
  ·intro h0 hd K hK
   have z : u5 = false:=h0
   have zd0 : u3 = true ∧ u4 = true:=by
    simp [Region.binds] at hd;simp [hd]
   have zd : u3 = true ∧ u4 = true ∧ u0 = true ∧ u1 = true ∧ u2 = true:=⟨zd0.1,zd0.2,(zu l1 (zu l2 (zu l3 zd0.1))),(zu l2 (zu l3 zd0.1)),(zu l3 zd0.1)⟩
   obtain ⟨rfl,rfl,rfl,rfl,rfl⟩:=zd;subst z;clear h0 hd;rw [if_pos (by rfl)]
   (unfold Oper.wpIn;refine ⟨fun _ _ => trivial,?_⟩;go_simp)
   exact zu hK _ _ ⟨true,true,true,true,true,true,dm,rfl,rfl,zu kB,(fun _ => rfl),(fun _ => rfl),(fun _ => rfl),(fun _ => ⟨rfl,rfl,rfl,rfl,rfl⟩)⟩
 case hend =>
  intro Lb A W hI;obtain ⟨u0,u1,u2,u3,u4,hI⟩:=hI;obtain ⟨u5,dm,hI⟩:=hI;obtain ⟨hLb,hI⟩:=hI;obtain ⟨hA,hI⟩:=hI;obtain ⟨kB,hI⟩:=hI;obtain ⟨l1,hI⟩:=hI;obtain ⟨l2,hI⟩:=hI;obtain ⟨l3,hI⟩:=hI;have kF:=hI;clear hI;subst hLb;subst hA;intro hL
  have hl : u0 = true ∧ u1 = true ∧ u2 = true ∧ u3 = true ∧ u4 = true ∧ u5 = true:=by
   have h2:=congrArg Array.toList hL
   simpa [List.replicate] using h2
  obtain ⟨rfl,rfl,rfl,rfl,rfl,rfl⟩:=hl;exact zu HQ   W kB
theorem pd12 {s0 s1 s2 s4 s5 s7 s8 s9 s11 s12 s13 s14 s15 s16 s17 s18 s19 s20 s21 s22 s23 s24 s25 s26 s27 s28 s29 s30 s31 s32 s33 s34 s35 s36 s37 s38 s39 s40 s41 s42 s43 s44 s45 s46 s47 s48 s49 s50 s51 s52 s53 s54 s55 s56 s57 s58 s59 s60 s61 s62 s63 s64 s65 s66 s67 s68 s69 s70 s71 s72 s73 s74 s75 : Value} {b3 b6 g gc kk n cd l : Nat} {fl : Bool} {ud : Option Addr} {V : World} {K_ : Act → World → Prop}
  (HB0 : Hid (V.cell? ⟨b3,0,none⟩ = some (.pointer (some ⟨g,0,none⟩)))) (HG1 : Hid (V.cell? ⟨g,1,none⟩ = some (.slice ud n cd))) (H60 : Hid (V.cell? ⟨b6,0,none⟩ = some (.bool (fl)))) (hbO : gc < V.heap.size) {oo0 : Value} (HO0 : Hid (V.cell? ⟨gc,kk * 2,none⟩ = some oo0)) {oo1 : Value} (HO1 : Hid (V.cell? ⟨gc,kk * 2 + 1,none⟩ = some oo1)) (HOf : Hid (∀ o,V.frozen? ⟨gc,o,none⟩ = false))
  (hQ : ∀  (W1 W9 : World),W9 = ((W1.setCell ⟨gc,kk * 2,none⟩ (.bool (fl))).setCell ⟨gc,kk * 2 + 1,none⟩ (.int .i64 (n : Int))) → Below V.heap.size V W1 → K_ { tmps:=#[s0,s1,s2,.pointer (some ⟨b3,0,none⟩),s4,s5,.pointer (some ⟨b6,0,none⟩),s7,s8,s9,.pointer (some ⟨gc,kk * 2,none⟩),s11,s12,s13,s14,s15,s16,s17,s18,s19,s20,s21,s22,s23,s24,s25,s26,s27,s28,s29,s30,s31,s32,s33,s34,s35,s36,s37,s38,s39,s40,s41,s42,s43,s44,s45,s46,s47,s48,s49,s50,s51,s52,s53,s54,s55,s56,s57,s58,s59,s60,s61,s62,s63,s64,s65,.pointer (some ⟨gc,kk * 2,none⟩),.bool (fl),.pointer (some ⟨g,0,none⟩),.pointer (some ⟨g,0,none⟩),.pointer (some ⟨g,1,none⟩),.slice ud n cd,.int .i64 (n : Int),.agg #[.bool (fl),.int .i64 (n : Int)],.pointer (some ⟨gc,kk * 2,none⟩),s75],defers:=[] } W9) :
  Go.Code.wpIn (Fence.wide.inRound l) 0 Tryz.prog (rg118 12) (Only K_) { tmps:=#[s0,s1,s2,.pointer (some ⟨b3,0,none⟩),s4,s5,.pointer (some ⟨b6,0,none⟩),s7,s8,s9,.pointer (some ⟨gc,kk * 2,none⟩),s11,s12,s13,s14,s15,s16,s17,s18,s19,s20,s21,s22,s23,s24,s25,s26,s27,s28,s29,s30,s31,s32,s33,s34,s35,s36,s37,s38,s39,s40,s41,s42,s43,s44,s45,s46,s47,s48,s49,s50,s51,s52,s53,s54,s55,s56,s57,s58,s59,s60,s61,s62,s63,s64,s65,s66,s67,s68,s69,s70,s71,s72,s73,s74,s75],defers:=[] } V:=by
 have HQ:=hide hQ;clear hQ
 conv => arg 4;whnf
 refine wpIn_region_inv (fun Lb A W => ∃ (u0 u1 u2 u3 u4 u5 u6 u7 u8 u9 : Bool) (dm : Nat),Lb = #[u0,u1,u2,u3,u4,u5,u6,u7,u8,u9] ∧ A = ({ tmps:=#[s0,s1,s2,.pointer (some ⟨b3,0,none⟩),s4,s5,.pointer (some ⟨b6,0,none⟩),s7,s8,s9,.pointer (some ⟨gc,kk * 2,none⟩),s11,s12,s13,s14,s15,s16,s17,s18,s19,s20,s21,s22,s23,s24,s25,s26,s27,s28,s29,s30,s31,s32,s33,s34,s35,s36,s37,s38,s39,s40,s41,s42,s43,s44,s45,s46,s47,s48,s49,s50,s51,s52,s53,s54,s55,s56,s57,s58,s59,s60,s61,s62,s63,s64,s65,(bif u0 then .pointer (some ⟨gc,kk * 2,none⟩) else s66),(bif u1 then .bool (fl) else s67),(bif u2 then .pointer (some ⟨g,0,none⟩) else s68),(bif u3 then .pointer (some ⟨g,0,none⟩) else s69),(bif u4 then .pointer (some ⟨g,1,none⟩) else s70),(bif u5 then .slice ud n cd else s71),(bif u6 then .int .i64 (n : Int) else s72),(bif u7 then .agg #[.bool (fl),.int .i64 (n : Int)] else s73),(bif u8 then .pointer (some ⟨gc,kk * 2,none⟩) else s74),s75],defers:=[] } : Act) ∧ (u9 = false → Below V.heap.size V W) ∧ (u9 = true → ∃ W1,Below V.heap.size V W1 ∧ W = ((W1.setCell ⟨gc,kk * 2,none⟩ (.bool (fl))).setCell ⟨gc,kk * 2 + 1,none⟩ (.int .i64 (n : Int)))) ∧ (u9 = true → u0 = true ∧ u1 = true ∧ u2 = true ∧ u3 = true ∧ u4 = true ∧ u5 = true ∧ u6 = true ∧ u7 = true ∧ u8 = true)) (by kernel_rfl) (by kernel_rfl) ?h0 ?hstep ?hend
 case h0 =>
  exact ⟨false,false,false,false,false,false,false,false,false,false,0,rfl,rfl,(fun _ => Below.drew (bfl _ _)),zf,zf⟩
 case hstep =>
  intro Lb A W hI;obtain ⟨u0,u1,u2,u3,u4,hI⟩:=hI;obtain ⟨u5,u6,u7,u8,u9,hI⟩:=hI;obtain ⟨dm,hI⟩:=hI;obtain ⟨hLb,hI⟩:=hI;obtain ⟨hA,hI⟩:=hI;obtain ⟨kB,hI⟩:=hI;obtain ⟨kZ,hI⟩:=hI;have kF:=hI;clear hI;subst hLb;subst hA;replace kB:=hide kB;replace kZ:=hide kZ;replace kF:=hide kF;refine ⟨?_,?_,?_,?_,?_,?_,?_,?_,?_,?_,trivial⟩
  ·intro h0 hd K hK
   have z : u0 = false:=h0;have z9_ : u9 = false:=znb fun hu => z.symm.trans ((zu kF hu).1)
   subst z9_;subst z;clear h0 hd;rw [if_pos (by rfl)]
   (unfold Oper.wpIn;refine ⟨fun _ _ => trivial,?_⟩;go_simp)
   exact zu hK _ _ ⟨true,u1,u2,u3,u4,u5,u6,u7,u8,false,dm,rfl,rfl,zu kB,zf,zf⟩
  ·intro h0 hd K hK
   have z : u1 = false:=h0;have z9_ : u9 = false:=znb fun hu => z.symm.trans ((zu kF hu).2.1)
   subst z9_;subst z;clear h0 hd;rw [if_pos (by rfl)];have c0:=keep1 (zu kB rfl) (zu H60)
   (unfold Oper.wpIn;refine ⟨fun _ _ => trivial,?_⟩;go_simp)
   exact zu hK _ _ ⟨u0,true,u2,u3,u4,u5,u6,u7,u8,false,dm,rfl,rfl,zu kB,zf,zf⟩
  ·intro h0 hd K hK
   have z : u2 = false:=h0;have z9_ : u9 = false:=znb fun hu => z.symm.trans ((zu kF hu).2.2.1)
   subst z9_;subst z;clear h0 hd;rw [if_pos (by rfl)];have c0:=keep1 (zu kB rfl) (zu HB0)
   (unfold Oper.wpIn;refine ⟨fun _ _ => trivial,?_⟩;go_simp)
   exact zu hK _ _ ⟨u0,u1,true,u3,u4,u5,u6,u7,u8,false,dm,rfl,rfl,zu kB,zf,zf⟩
  ·intro h0 hd K hK
   have z : u3 = false:=h0;have z9_ : u9 = false:=znb fun hu => z.symm.trans ((zu kF hu).2.2.2.1)
   obtain ⟨rfl⟩ : u2 = true:=by simp [Region.binds] at hd;simp [hd]
   subst z9_;subst z;clear h0 hd;rw [if_pos (by rfl)]
   (unfold Oper.wpIn;refine ⟨fun _ _ => trivial,?_⟩;go_simp)
   exact zu hK _ _ ⟨u0,u1,true,true,u4,u5,u6,u7,u8,false,dm,rfl,rfl,zu kB,zf,zf⟩
  ·intro h0 hd K hK
   have z : u4 = false:=h0;have z9_ : u9 = false:=znb fun hu => z.symm.trans ((zu kF hu).2.2.2.2.1)
   obtain ⟨rfl⟩ : u3 = true:=by simp [Region.binds] at hd;simp [hd]
   subst z9_;subst z;clear h0 hd;rw [if_pos (by rfl)]
   (unfold Oper.wpIn;refine ⟨fun _ _ => trivial,?_⟩;go_simp)
   exact zu hK _ _ ⟨u0,u1,u2,true,true,u5,u6,u7,u8,false,dm,rfl,rfl,zu kB,zf,zf⟩
  ·intro h0 hd K hK
   have z : u5 = false:=h0;have z9_ : u9 = false:=znb fun hu => z.symm.trans ((zu kF hu).2.2.2.2.2.1)
   obtain ⟨rfl⟩ : u4 = true:=by simp [Region.binds] at hd;simp [hd]
   subst z9_;subst z;clear h0 hd;rw [if_pos (by rfl)];have c0:=keep1 (zu kB rfl) (zu HG1)
   (unfold Oper.wpIn;refine ⟨fun _ _ => trivial,?_⟩;go_simp)
   exact zu hK _ _ ⟨u0,u1,u2,u3,true,true,u6,u7,u8,false,dm,rfl,rfl,zu kB,zf,zf⟩
  ·intro h0 hd K hK
   have z : u6 = false:=h0;have z9_ : u9 = false:=znb fun hu => z.symm.trans ((zu kF hu).2.2.2.2.2.2.1)
   obtain ⟨rfl⟩ : u5 = true:=by simp [Region.binds] at hd;simp [hd]
   subst z9_;subst z;clear h0 hd;rw [if_pos (by rfl)]
   (unfold Oper.wpIn;refine ⟨fun _ _ => trivial,?_⟩;go_simp)
   exact zu hK _ _ ⟨u0,u1,u2,u3,u4,true,true,u7,u8,false,dm,rfl,rfl,zu kB,zf,zf⟩
  ·intro h0 hd K hK
   have z : u7 = false:=h0;have z9_ : u9 = false:=znb fun hu => z.symm.trans ((zu kF hu).2.2.2.2.2.2.2.1)
   obtain ⟨rfl,rfl⟩ : u1 = true ∧ u6 = true:=by simp [Region.binds] at hd;simp [hd]
   subst z9_;subst z;clear h0 hd;rw [if_pos (by rfl)]
   (unfold Oper.wpIn;refine ⟨fun _ _ => trivial,?_⟩;go_simp)
   exact zu hK _ _ ⟨u0,true,u2,u3,u4,u5,true,true,u8,false,dm,rfl,rfl,zu kB,zf,zf⟩
  ·intro h0 hd K hK
   have z : u8 = false:=h0;have z9_ : u9 = false:=znb fun hu => z.symm.trans ((zu kF hu).2.2.2.2.2.2.2.2)
   obtain ⟨rfl,rfl⟩ : u0 = true ∧ u7 = true:=by simp [Region.binds] at hd;simp [hd]
   subst z9_;subst z;clear h0 hd;rw [if_pos (by rfl)]
   (unfold Oper.wpIn;refine ⟨fun _ _ => trivial,?_⟩;go_simp)
   exact zu hK _ _ ⟨true,u1,u2,u3,u4,u5,u6,true,true,false,dm,rfl,rfl,zu kB,zf,zf⟩
  ·intro h0 hd K hK
   have z : u9 = false:=h0
   have zd0 : u0 = true ∧ u1 = true ∧ u2 = true ∧ u3 = true ∧ u4 = true ∧ u5 = true ∧ u6 = true ∧ u7 = true ∧ u8 = true:=by
    simp [Region.binds] at hd;simp [hd]
   have zd : u0 = true ∧ u1 = true ∧ u2 = true ∧ u3 = true ∧ u4 = true ∧ u5 = true ∧ u6 = true ∧ u7 = true ∧ u8 = true:=⟨zd0.1,zd0.2.1,zd0.2.2.1,zd0.2.2.2.1,zd0.2.2.2.2.1,zd0.2.2.2.2.2.1,zd0.2.2.2.2.2.2.1,zd0.2.2.2.2.2.2.2.1,zd0.2.2.2.2.2.2.2.2⟩
   obtain ⟨rfl,rfl,rfl,rfl,rfl,rfl,rfl,rfl,rfl⟩:=zd;subst z;clear h0 hd;rw [if_pos (by rfl)]
   have hB:=(zu kB rfl)
   have q0:=keep1 hB (zu HO0);have q1:=keep1 hB (zu HO1);have fz : ∀ o,W.frozen? ⟨gc,o,none⟩ = false:=fun o => keepz hB hbO (zu HOf o)
   have HBB:=hide hB;clear hB
   (unfold Oper.wpIn;refine ⟨fun _ _ => trivial,?_⟩;go_simp)
   exact zu hK _ _ ⟨true,true,true,true,true,true,true,true,true,true,dm,rfl,rfl,zt,(fun _ => ⟨W,zu HBB,rfl⟩),(fun _ => ⟨rfl,rfl,rfl,rfl,rfl,rfl,rfl,rfl,rfl⟩)⟩
 case hend =>
  intro Lb A W hI;obtain ⟨u0,u1,u2,u3,u4,hI⟩:=hI;obtain ⟨u5,u6,u7,u8,u9,hI⟩:=hI;obtain ⟨dm,hI⟩:=hI;obtain ⟨hLb,hI⟩:=hI;obtain ⟨hA,hI⟩:=hI;obtain ⟨kB,hI⟩:=hI;obtain ⟨kZ,hI⟩:=hI;have kF:=hI;clear hI;subst hLb;subst hA;intro hL
  have hl : u0 = true ∧ u1 = true ∧ u2 = true ∧ u3 = true ∧ u4 = true ∧ u5 = true ∧ u6 = true ∧ u7 = true ∧ u8 = true ∧ u9 = true:=by
   have h2:=congrArg Array.toList hL
   simpa [List.replicate] using h2
  obtain ⟨rfl,rfl,rfl,rfl,rfl,rfl,rfl,rfl,rfl,rfl⟩:=hl;obtain ⟨W1,hA,hZ⟩:=kZ rfl;exact zu HQ   W1 W hZ hA
end Go.Proofs.YtkiplmabjeadgaaGreat
