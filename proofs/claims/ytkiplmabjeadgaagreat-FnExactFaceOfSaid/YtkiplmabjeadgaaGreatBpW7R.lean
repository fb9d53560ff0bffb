/- Statements of the program's workOf that draw their order. -/
import Derived.Test.YtkiplmabjeadgaaGreatRunesR
import Derived.Test.YtkiplmabjeadgaaGreatBpU6R
namespace Go.Proofs.YtkiplmabjeadgaaGreat
set_option maxRecDepth 100000
set_option maxHeartbeats 16000000
open Go.ChangeShapes Go.WideShapes Go.ChangeAt Go.RowKit
set_option linter.unusedVariables false
set_option linter.unusedSimpArgs false
noncomputable def rg117 (id : Nat) : Go.Code:=match Tryz.f117.body with | some c => (regOfZ id c).getD .skip | none => .skip
theorem wo5 {s0 s1 s2 s4 s5 s6 s7 s8 s9 s10 s11 s12 s13 s14 s15 s16 s17 s18 s19 s20 s21 s22 s23 s24 s25 s26 s27 s28 s29 s30 s31 s32 s33 s34 s35 s36 s37 s38 s39 s40 s41 s42 s43 s44 s45 s46 s47 s48 : Value} {gF : Nat} {nm on : ByteArray} {V : World} {K_ : Act → World → Prop}
  (HF0 : Hid (V.cell? ⟨gF,0,none⟩ = some (.string nm))) (HF1 : Hid (V.cell? ⟨gF,1,none⟩ = some (.string on)))
  (hQ : ∀ (n4 : Nat)  (W1 : World),Below V.heap.size V W1 → vb W1 n4 9 [.string nm,.string on] → V.heap.size ≤ n4 → K_ { tmps:=#[s0,s1,s2,.pointer (some ⟨gF,0,none⟩),.nilIface,.int .i64 (8),.slice (some ⟨n4,0,none⟩) 2 2,s7,s8,s9,s10,s11,s12,s13,s14,s15,s16,s17,s18,s19,s20,s21,s22,s23,.pointer (some ⟨gF,0,none⟩),.string nm,.pointer (some ⟨gF,1,none⟩),.string on,.slice (some ⟨n4,0,none⟩) 2 2,s29,s30,s31,s32,s33,s34,s35,s36,s37,s38,s39,s40,s41,s42,s43,s44,s45,s46,s47,s48],defers:=[] } W1) :
  Go.Code.wp Tryz.prog (rg117 5) (Only K_) { tmps:=#[s0,s1,s2,.pointer (some ⟨gF,0,none⟩),s4,s5,s6,s7,s8,s9,s10,s11,s12,s13,s14,s15,s16,s17,s18,s19,s20,s21,s22,s23,s24,s25,s26,s27,s28,s29,s30,s31,s32,s33,s34,s35,s36,s37,s38,s39,s40,s41,s42,s43,s44,s45,s46,s47,s48],defers:=[] } V:=by
 have HQ:=hide hQ;clear hQ
 conv => arg 2;whnf
 refine wp_region_inv2 (fun Lb A W => ∃ (u0 u1 u2 u3 u4 u5 u6 u7 : Bool) (n4 : Nat),Lb = #[u0,u1,u2,u3,u4,u5,u6,u7] ∧ A = ({ tmps:=#[s0,s1,s2,.pointer (some ⟨gF,0,none⟩),(bif u5 then .nilIface else s4),(bif u6 then .int .i64 (8) else s5),(bif u7 then .slice (some ⟨n4,0,none⟩) 2 2 else s6),s7,s8,s9,s10,s11,s12,s13,s14,s15,s16,s17,s18,s19,s20,s21,s22,s23,(bif u0 then .pointer (some ⟨gF,0,none⟩) else s24),(bif u1 then .string nm else s25),(bif u2 then .pointer (some ⟨gF,1,none⟩) else s26),(bif u3 then .string on else s27),(bif u4 then .slice (some ⟨n4,0,none⟩) 2 2 else s28),s29,s30,s31,s32,s33,s34,s35,s36,s37,s38,s39,s40,s41,s42,s43,s44,s45,s46,s47,s48],defers:=[] } : Act) ∧ Below V.heap.size V W ∧ (u4 = true → vb W n4 9 [.string nm,.string on] ∧ V.heap.size ≤ n4) ∧ (u7 = true → u0 = true ∧ u1 = true ∧ u2 = true ∧ u3 = true ∧ u4 = true ∧ u5 = true ∧ u6 = true)) (by kernel_rfl) (by kernel_rfl) ?h0 ?hstep ?hend
 case h0 =>
  exact ⟨false,false,false,false,false,false,false,false,0,rfl,rfl,Below.drew (bfl _ _),zf,zf⟩
 case hstep =>
  intro Lb A W hI;obtain ⟨u0,u1,u2,u3,u4,hI⟩:=hI;obtain ⟨u5,u6,u7,n4,hI⟩:=hI;obtain ⟨hLb,hI⟩:=hI;obtain ⟨hA,hI⟩:=hI;obtain ⟨kB,hI⟩:=hI;obtain ⟨k4,hI⟩:=hI;have kF:=hI;clear hI;subst hLb;subst hA;replace kB:=hide kB;replace k4:=hide k4;replace kF:=hide kF;refine ⟨?_,?_,?_,?_,?_,?_,?_,?_,trivial⟩
  ·intro h0 hd K hK
   have z : u0 = false:=h0;have z7_ : u7 = false:=znb fun hu => z.symm.trans ((zu kF hu).1)
   subst z7_;subst z;clear h0 hd;rw [if_pos (by rfl)];go_simp;exact zu hK _ _ ⟨true,u1,u2,u3,u4,u5,u6,false,n4,rfl,rfl,zu kB,zu k4,zf⟩
  ·intro h0 hd K hK
   have z : u1 = false:=h0;have z7_ : u7 = false:=znb fun hu => z.symm.trans ((zu kF hu).2.1)
   obtain ⟨rfl⟩ : u0 = true:=by simp [Region.binds] at hd;simp [hd]
   subst z7_;subst z;clear h0 hd;rw [if_pos (by rfl)];have c0:=keep1 (zu kB) (zu HF0);go_simp;exact zu hK _ _ ⟨true,true,u2,u3,u4,u5,u6,false,n4,rfl,rfl,zu kB,zu k4,zf⟩
  ·intro h0 hd K hK
   have z : u2 = false:=h0;have z7_ : u7 = false:=znb fun hu => z.symm.trans ((zu kF hu).2.2.1)
   subst z7_;subst z;clear h0 hd;rw [if_pos (by rfl)];go_simp;exact zu hK _ _ ⟨u0,u1,true,u3,u4,u5,u6,false,n4,rfl,rfl,zu kB,zu k4,zf⟩
  ·intro h0 hd K hK
   have z : u3 = false:=h0;have z7_ : u7 = false:=znb fun hu => z.symm.trans ((zu kF hu).2.2.2.1)
   obtain ⟨rfl⟩ : u2 = true:=by simp [Region.binds] at hd;simp [hd]
   subst z7_;subst z;clear h0 hd;rw [if_pos (by rfl)];have c0:=keep1 (zu kB) (zu HF1);go_simp;exact zu hK _ _ ⟨u0,u1,true,true,u4,u5,u6,false,n4,rfl,rfl,zu kB,zu k4,zf⟩
  ·intro h0 hd K hK
   have z : u4 = false:=h0;have z7_ : u7 = false:=znb fun hu => z.symm.trans ((zu kF hu).2.2.2.2.1)
   obtain ⟨rfl,rfl⟩ : u1 = true ∧ u3 = true:=by simp [Region.binds] at hd;simp [hd]
   subst z7_;subst z;clear h0 hd;rw [if_pos (by rfl)];go_simp;exact zu hK _ _ ⟨u0,true,u2,true,true,u5,u6,false,W.heap.size,rfl,rfl,ba (zu kB) _,(fun _ => ⟨vb_new W 9 _ _ rfl,(zu kB).size⟩),zf⟩
  ·intro h0 hd K hK
   have z : u5 = false:=h0;have z7_ : u7 = false:=znb fun hu => z.symm.trans ((zu kF hu).2.2.2.2.2.1)
   subst z7_;subst z;clear h0 hd;rw [if_pos (by rfl)];go_simp;exact zu hK _ _ ⟨u0,u1,u2,u3,u4,true,u6,false,n4,rfl,rfl,zu kB,zu k4,zf⟩
  ·intro h0 hd K hK
   have z : u6 = false:=h0;have z7_ : u7 = false:=znb fun hu => z.symm.trans ((zu kF hu).2.2.2.2.2.2)
   obtain ⟨rfl⟩ : u5 = true:=by simp [Region.binds] at hd;simp [hd]
   subst z7_;subst z;clear h0 hd;rw [if_pos (by rfl)];go_simp;exact zu hK _ _ ⟨u0,u1,u2,u3,u4,true,true,false,n4,rfl,rfl,zu kB,zu k4,zf⟩
  ·intro h0 hd K hK
   have z : u7 = false:=h0
   have zd0 : u0 = true ∧ u1 = true ∧ u2 = true ∧ u3 = true ∧ u4 = true ∧ u5 = true ∧ u6 = true:=by
    simp [Region.binds] at hd;simp [hd]
   have zd : u0 = true ∧ u1 = true ∧ u2 = true ∧ u3 = true ∧ u4 = true ∧ u5 = true ∧ u6 = true:=⟨zd0.1,zd0.2.1,zd0.2.2.1,zd0.2.2.2.1,zd0.2.2.2.2.1,zd0.2.2.2.2.2.1,zd0.2.2.2.2.2.2⟩
   obtain ⟨rfl,rfl,rfl,rfl,rfl,rfl,rfl⟩:=zd;subst z;clear h0 hd;rw [if_pos (by rfl)];go_simp;exact zu hK _ _ ⟨true,true,true,true,true,true,true,true,n4,rfl,rfl,zu kB,zu k4,(fun _ => ⟨rfl,rfl,rfl,rfl,rfl,rfl,rfl⟩)⟩
 case hend =>
  intro Lb A W hI;obtain ⟨u0,u1,u2,u3,u4,hI⟩:=hI;obtain ⟨u5,u6,u7,n4,hI⟩:=hI;obtain ⟨hLb,hI⟩:=hI;obtain ⟨hA,hI⟩:=hI;obtain ⟨kB,hI⟩:=hI;obtain ⟨k4,hI⟩:=hI;have kF:=hI;clear hI;subst hLb;subst hA;intro hL
  have hl : u0 = true ∧ u1 = true ∧ u2 = true ∧ u3 = true ∧ u4 = true ∧ u5 = true ∧ u6 = true ∧ u7 = true:=by
   have h2:=congrArg Array.toList hL
   simpa [List.replicate] using h2
  obtain ⟨rfl,rfl,rfl,rfl,rfl,rfl,rfl,rfl⟩:=hl;exact zu HQ n4  W kB (k4 rfl).1 (k4 rfl).2
theorem wo7 {s0 s1 s2 s4 s5 s6 s7 s8 s9 s10 s11 s12 s13 s14 s15 s16 s17 s18 s19 s20 s21 s22 s23 s24 s25 s26 s27 s28 s29 s30 s31 s32 s33 s34 s35 s36 s37 s38 s39 s40 s41 s42 s43 s44 s45 s46 s47 s48 : Value} {gF : Nat} {nm on : ByteArray} {V : World} {K_ : Act → World → Prop}
  (HF0 : Hid (V.cell? ⟨gF,0,none⟩ = some (.string nm))) (HF1 : Hid (V.cell? ⟨gF,1,none⟩ = some (.string on)))
  (hQ : ∀ (n4 : Nat)  (W1 : World),Below V.heap.size V W1 → vb W1 n4 9 [.string nm,.string on] → V.heap.size ≤ n4 → K_ { tmps:=#[s0,s1,s2,.pointer (some ⟨gF,0,none⟩),.nilIface,.int .i64 (13),.slice (some ⟨n4,0,none⟩) 2 2,s7,s8,s9,s10,s11,s12,s13,s14,s15,s16,s17,s18,s19,s20,s21,s22,s23,s24,s25,s26,s27,s28,s29,s30,s31,.pointer (some ⟨gF,0,none⟩),.string nm,.pointer (some ⟨gF,1,none⟩),.string on,.slice (some ⟨n4,0,none⟩) 2 2,s37,s38,s39,s40,s41,s42,s43,s44,s45,s46,s47,s48],defers:=[] } W1) :
  Go.Code.wp Tryz.prog (rg117 7) (Only K_) { tmps:=#[s0,s1,s2,.pointer (some ⟨gF,0,none⟩),s4,s5,s6,s7,s8,s9,s10,s11,s12,s13,s14,s15,s16,s17,s18,s19,s20,s21,s22,s23,s24,s25,s26,s27,s28,s29,s30,s31,s32,s33,s34,s35,s36,s37,s38,s39,s40,s41,s42,s43,s44,s45,s46,s47,s48],defers:=[] } V:=by
 have HQ:=hide hQ;clear hQ
 conv => arg 2;whnf
 refine wp_region_inv2 (fun Lb A W => ∃ (u0 u1 u2 u3 u4 u5 u6 u7 : Bool) (n4 : Nat),Lb = #[u0,u1,u2,u3,u4,u5,u6,u7] ∧ A = ({ tmps:=#[s0,s1,s2,.pointer (some ⟨gF,0,none⟩),(bif u5 then .nilIface else s4),(bif u6 then .int .i64 (13) else s5),(bif u7 then .slice (some ⟨n4,0,none⟩) 2 2 else s6),s7,s8,s9,s10,s11,s12,s13,s14,s15,s16,s17,s18,s19,s20,s21,s22,s23,s24,s25,s26,s27,s28,s29,s30,s31,(bif u0 then .pointer (some ⟨gF,0,none⟩) else s32),(bif u1 then .string nm else s33),(bif u2 then .pointer (some ⟨gF,1,none⟩) else s34),(bif u3 then .string on else s35),(bif u4 then .slice (some ⟨n4,0,none⟩) 2 2 else s36),s37,s38,s39,s40,s41,s42,s43,s44,s45,s46,s47,s48],defers:=[] } : Act) ∧ Below V.heap.size V W ∧ (u4 = true → vb W n4 9 [.string nm,.string on] ∧ V.heap.size ≤ n4) ∧ (u7 = true → u0 = true ∧ u1 = true ∧ u2 = true ∧ u3 = true ∧ u4 = true ∧ u5 = true ∧ u6 = true)) (by kernel_rfl) (by kernel_rfl) ?h0 ?hstep ?hend
 case h0 =>
  exact ⟨false,false,false,false,false,false,false,false,0,rfl,rfl,Below.drew (bfl _ _),zf,zf⟩
 case hstep =>
  intro Lb A W hI;obtain ⟨u0,u1,u2,u3,u4,hI⟩:=hI;obtain ⟨u5,u6,u7,n4,hI⟩:=hI;obtain ⟨hLb,hI⟩:=hI;obtain ⟨hA,hI⟩:=hI;obtain ⟨kB,hI⟩:=hI;obtain ⟨k4,hI⟩:=hI;have kF:=hI;clear hI;subst hLb;subst hA;replace kB:=hide kB;replace k4:=hide k4;replace kF:=hide kF;refine ⟨?_,?_,?_,?_,?_,?_,?_,?_,trivial⟩
  ·intro h0 hd K hK
   have z : u0 = false:=h0;have z7_ : u7 = false:=znb fun hu => z.symm.trans ((zu kF hu).1)
   subst z7_;subst z;clear h0 hd;rw [if_pos (by rfl)];go_simp;exact zu hK _ _ ⟨true,u1,u2,u3,u4,u5,u6,false,n4,rfl,rfl,zu kB,zu k4,zf⟩
  ·intro h0 hd K hK
   have z : u1 = false:=h0;have z7_ : u7 = false:=znb fun hu => z.symm.trans ((zu kF hu).2.1)
   obtain ⟨rfl⟩ : u0 = true:=by simp [Region.binds] at hd;simp [hd]
   subst z7_;subst z;clear h0 hd;rw [if_pos (by rfl)];have c0:=keep1 (zu kB) (zu HF0);go_simp;exact zu hK _ _ ⟨true,true,u2,u3,u4,u5,u6,false,n4,rfl,rfl,zu kB,zu k4,zf⟩
  ·intro h0 hd K hK
   have z : u2 = false:=h0;have z7_ : u7 = false:=znb fun hu => z.symm.trans ((zu kF hu).2.2.1)
   subst z7_;subst z;clear h0 hd;rw [if_pos (by rfl)];go_simp;exact zu hK _ _ ⟨u0,u1,true,u3,u4,u5,u6,false,n4,rfl,rfl,zu kB,zu k4,zf⟩
  ·intro h0 hd K hK
   have z : u3 = false:=h0;have z7_ : u7 = false:=znb fun hu => z.symm.trans ((zu kF hu).2.2.2.1)
   obtain ⟨rfl⟩ : u2 = true:=by simp [Region.binds] at hd;simp [hd]
   subst z7_;subst z;clear h0 hd;rw [if_pos (by rfl)];have c0:=keep1 (zu kB) (zu HF1);go_simp;exact zu hK _ _ ⟨u0,u1,true,true,u4,u5,u6,false,n4,rfl,rfl,zu kB,zu k4,zf⟩
  ·intro h0 hd K hK
   have z : u4 = false:=h0;have z7_ : u7 = false:=znb fun hu => z.symm.trans ((zu kF hu).2.2.2.2.1)
   obtain ⟨rfl,rfl⟩ : u1 = true ∧ u3 = true:=by simp [Region.binds] at hd;simp [hd]
   subst z7_;subst z;clear h0 hd;rw [if_pos (by rfl)];go_simp;exact zu hK _ _ ⟨u0,true,u2,true,true,u5,u6,false,W.heap.size,rfl,rfl,ba (zu kB) _,(fun _ => ⟨vb_new W 9 _ _ rfl,(zu kB).size⟩),zf⟩
  ·intro h0 hd K hK
   have z : u5 = false:=h0;have z7_ : u7 = false:=znb fun hu => z.symm.trans ((zu kF hu).2.2.2.2.2.1)
   subst z7_;subst z;clear h0 hd;rw [if_pos (by rfl)];go_simp;exact zu hK _ _ ⟨u0,u1,u2,u3,u4,true,u6,false,n4,rfl,rfl,zu kB,zu k4,zf⟩
  ·intro h0 hd K hK
   have z : u6 = false:=h0;have z7_ : u7 = false:=znb fun hu => z.symm.trans ((zu kF hu).2.2.2.2.2.2)
   obtain ⟨rfl⟩ : u5 = true:=by simp [Region.binds] at hd;simp [hd]
   subst z7_;subst z;clear h0 hd;rw [if_pos (by rfl)];go_simp;exact zu hK _ _ ⟨u0,u1,u2,u3,u4,true,true,false,n4,rfl,rfl,zu kB,zu k4,zf⟩
  ·intro h0 hd K hK
   have z : u7 = false:=h0
   have zd0 : u0 = true ∧ u1 = true ∧ u2 = true ∧ u3 = true ∧ u4 = true ∧ u5 = true ∧ u6 = true:=by
    simp [Region.binds] at hd;simp [hd]
   have zd : u0 = true ∧ u1 = true ∧ u2 = true ∧ u3 = true ∧ u4 = true ∧ u5 = true ∧ u6 = true:=⟨zd0.1,zd0.2.1,zd0.2.2.1,zd0.2.2.2.1,zd0.2.2.2.2.1,zd0.2.2.2.2.2.1,zd0.2.2.2.2.2.2⟩
   obtain ⟨rfl,rfl,rfl,rfl,rfl,rfl,rfl⟩:=zd;subst z;clear h0 hd;rw [if_pos (by rfl)];go_simp;exact zu hK _ _ ⟨true,true,true,true,true,true,true,true,n4,rfl,rfl,zu kB,zu k4,(fun _ => ⟨rfl,rfl,rfl,rfl,rfl,rfl,rfl⟩)⟩
 case hend =>
  intro Lb A W hI;obtain ⟨u0,u1,u2,u3,u4,hI⟩:=hI;obtain ⟨u5,u6,u7,n4,hI⟩:=hI;obtain ⟨hLb,hI⟩:=hI;obtain ⟨hA,hI⟩:=hI;obtain ⟨kB,hI⟩:=hI;obtain ⟨k4,hI⟩:=hI;have kF:=hI;clear hI;subst hLb;subst hA;intro hL
  have hl : u0 = true ∧ u1 = true ∧ u2 = true ∧ u3 = true ∧ u4 = true ∧ u5 = true ∧ u6 = true ∧ u7 = true:=by
   have h2:=congrArg Array.toList hL
   simpa [List.replicate] using h2
  obtain ⟨rfl,rfl,rfl,rfl,rfl,rfl,rfl,rfl⟩:=hl;exact zu HQ n4  W kB (k4 rfl).1 (k4 rfl).2
theorem wo10 {s0 s1 s2 s4 s5 s6 s7 s8 s9 s10 s11 s12 s13 s14 s15 s16 s17 s18 s19 s20 s21 s22 s23 s24 s25 s26 s27 s28 s29 s30 s31 s32 s33 s34 s35 s36 s37 s38 s39 s40 s41 s42 s43 s44 s45 s46 s47 s48 : Value} {gF : Nat} {nm : ByteArray} {V : World} {K_ : Act → World → Prop}
  (HF0 : Hid (V.cell? ⟨gF,0,none⟩ = some (.string nm)))
  (hQ : ∀ (n2 : Nat)  (W1 : World),Below V.heap.size V W1 → vb W1 n2 9 [.string nm] → V.heap.size ≤ n2 → K_ { tmps:=#[s0,s1,s2,.pointer (some ⟨gF,0,none⟩),.nilIface,.int .i64 (5),.slice (some ⟨n2,0,none⟩) 1 1,s7,s8,s9,s10,s11,s12,s13,s14,s15,s16,s17,s18,s19,s20,s21,s22,s23,s24,s25,s26,s27,s28,s29,s30,s31,s32,s33,s34,s35,s36,s37,s38,s39,s40,s41,s42,s43,s44,.pointer (some ⟨gF,0,none⟩),.string nm,.slice (some ⟨n2,0,none⟩) 1 1,s48],defers:=[] } W1) :
  Go.Code.wp Tryz.prog (rg117 10) (Only K_) { tmps:=#[s0,s1,s2,.pointer (some ⟨gF,0,none⟩),s4,s5,s6,s7,s8,s9,s10,s11,s12,s13,s14,s15,s16,s17,s18,s19,s20,s21,s22,s23,s24,s25,s26,s27,s28,s29,s30,s31,s32,s33,s34,s35,s36,s37,s38,s39,s40,s41,s42,s43,s44,s45,s46,s47,s48],defers:=[] } V:=by
 have HQ:=hide hQ;clear hQ
 conv => arg 2;whnf
 refine wp_region_inv2 (fun Lb A W => ∃ (u0 u1 u2 u3 u4 u5 : Bool) (n2 : Nat),Lb = #[u0,u1,u2,u3,u4,u5] ∧ A = ({ tmps:=#[s0,s1,s2,.pointer (some ⟨gF,0,none⟩),(bif u3 then .nilIface else s4),(bif u4 then .int .i64 (5) else s5),(bif u5 then .slice (some ⟨n2,0,none⟩) 1 1 else s6),s7,s8,s9,s10,s11,s12,s13,s14,s15,s16,s17,s18,s19,s20,s21,s22,s23,s24,s25,s26,s27,s28,s29,s30,s31,s32,s33,s34,s35,s36,s37,s38,s39,s40,s41,s42,s43,s44,(bif u0 then .pointer (some ⟨gF,0,none⟩) else s45),(bif u1 then .string nm else s46),(bif u2 then .slice (some ⟨n2,0,none⟩) 1 1 else s47),s48],defers:=[] } : Act) ∧ Below V.heap.size V W ∧ (u2 = true → vb W n2 9 [.string nm] ∧ V.heap.size ≤ n2) ∧ (u5 = true → u0 = true ∧ u1 = true ∧ u2 = true ∧ u3 = true ∧ u4 = true)) (by kernel_rfl) (by kernel_rfl) ?h0 ?hstep ?hend
 case h0 =>
  exact ⟨false,false,false,false,false,false,0,rfl,rfl,Below.drew (bfl _ _),zf,zf⟩
 case hstep =>
  intro Lb A W hI;obtain ⟨u0,u1,u2,u3,u4,hI⟩:=hI;obtain ⟨u5,n2,hI⟩:=hI;obtain ⟨hLb,hI⟩:=hI;obtain ⟨hA,hI⟩:=hI;obtain ⟨kB,hI⟩:=hI;obtain ⟨k2,hI⟩:=hI;have kF:=hI;clear hI;subst hLb;subst hA;replace kB:=hide kB;replace k2:=hide k2;replace kF:=hide kF;refine ⟨?_,?_,?_,?_,?_,?_,trivial⟩
  ·intro h0 hd K hK
   have z : u0 = false:=h0;have z5_ : u5 = false:=znb fun hu => z.symm.trans ((zu kF hu).1)
   subst z5_;subst z;clear h0 hd;rw [if_pos (by rfl)];go_simp;exact zu hK _ _ ⟨true,u1,u2,u3,u4,false,n2,rfl,rfl,zu kB,zu k2,zf⟩
  ·intro h0 hd K hK
   have z : u1 = false:=h0;have z5_ : u5 = false:=znb fun hu => z.symm.trans ((zu kF hu).2.1)
   obtain ⟨rfl⟩ : u0 = true:=by simp [Region.binds] at hd;simp [hd]
   subst z5_;subst z;clear h0 hd;rw [if_pos (by rfl)];have c0:=keep1 (zu kB) (zu HF0);go_simp;exact zu hK _ _ ⟨true,true,u2,u3,u4,false,n2,rfl,rfl,zu kB,zu k2,zf⟩
  ·intro h0 hd K hK
   have z : u2 = false:=h0;have z5_ : u5 = false:=znb fun hu => z.symm.trans ((zu kF hu).2.2.1)
   obtain ⟨rfl⟩ : u1 = true:=by simp [Region.binds] at hd;simp [hd]
   subst z5_;subst z;clear h0 hd;rw [if_pos (by rfl)];go_simp;exact zu hK _ _ ⟨u0,true,true,u3,u4,false,W.heap.size,rfl,rfl,ba (zu kB) _,(fun _ => ⟨vb_new W 9 _ _ rfl,(zu kB).size⟩),zf⟩
  ·intro h0 hd K hK
   have z : u3 = false:=h0;have z5_ : u5 = false:=znb fun hu => z.symm.trans ((zu kF hu).2.2.2.1)
   subst z5_;subst z;clear h0 hd;rw [if_pos (by rfl)];go_simp;exact zu hK _ _ ⟨u0,u1,u2,true,u4,false,n2,rfl,rfl,zu kB,zu k2,zf⟩
  ·intro h0 hd K hK
   have z : u4 = false:=h0;have z5_ : u5 = false:=znb fun hu => z.symm.trans ((zu kF hu).2.2.2.2)
   obtain ⟨rfl⟩ : u3 = true:=by simp [Region.binds] at hd;simp [hd]
   subst z5_;subst z;clear h0 hd;rw [if_pos (by rfl)];go_simp;exact zu hK _ _ ⟨u0,u1,u2,true,true,false,n2,rfl,rfl,zu kB,zu k2,zf⟩
  ·intro h0 hd K hK
   have z : u5 = false:=h0
   have zd0 : u0 = true ∧ u1 = true ∧ u2 = true ∧ u3 = true ∧ u4 = true:=by
    simp [Region.binds] at hd;simp [hd]
   have zd : u0 = true ∧ u1 = true ∧ u2 = true ∧ u3 = true ∧ u4 = true:=⟨zd0.1,zd0.2.1,zd0.2.2.1,zd0.2.2.2.1,zd0.2.2.2.2⟩
   obtain ⟨rfl,rfl,rfl,rfl,rfl⟩:=zd;subst z;clear h0 hd;rw [if_pos (by rfl)];go_simp;exact zu hK _ _ ⟨true,true,true,true,true,true,n2,rfl,rfl,zu kB,zu k2,(fun _ => ⟨rfl,rfl,rfl,rfl,rfl⟩)⟩
 case hend =>
  intro Lb A W hI;obtain ⟨u0,u1,u2,u3,u4,hI⟩:=hI;obtain ⟨u5,n2,hI⟩:=hI;obtain ⟨hLb,hI⟩:=hI;obtain ⟨hA,hI⟩:=hI;obtain ⟨kB,hI⟩:=hI;obtain ⟨k2,hI⟩:=hI;have kF:=hI;clear hI;subst hLb;subst hA;intro hL
  have hl : u0 = true ∧ u1 = true ∧ u2 = true ∧ u3 = true ∧ u4 = true ∧ u5 = true:=by
   have h2:=congrArg Array.toList hL
   simpa [List.replicate] using h2
  obtain ⟨rfl,rfl,rfl,rfl,rfl,rfl⟩:=hl;exact zu HQ n2  W kB (k2 rfl).1 (k2 rfl).2
end Go.Proofs.YtkiplmabjeadgaaGreat
