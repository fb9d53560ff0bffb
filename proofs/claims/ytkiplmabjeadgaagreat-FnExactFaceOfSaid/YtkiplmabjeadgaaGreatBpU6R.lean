/- The program's unmoved work. -/
import Derived.Test.YtkiplmabjeadgaaGreatRunesR
import Derived.Test.YtkiplmabjeadgaaGreatBpWkR
import Derived.Test.YtkiplmabjeadgaaGreatBxKeyR
import Derived.Test.YtkiplmabjeadgaaGreatBdTdR
import Derived.Test.YtkiplmabjeadgaaGreatStOpenR
namespace Go.Proofs.YtkiplmabjeadgaaGreat
set_option maxRecDepth 100000
set_option maxHeartbeats 16000000
open Go.ChangeShapes Go.WideShapes Go.ChangeAt Go.RowKit
set_option linter.unusedVariables false
set_option linter.unusedSimpArgs false
noncomputable def rg152 (id : Nat) : Go.Code:=match Tryz.f152.body with | some c => (regOfZ id c).getD .skip | none => .skip
theorem um6 {s1 s2 s4 s5 s6 s7 s8 s9 s10 s11 s12 s13 s14 s15 s16 s17 s18 s19 s20 s21 s22 s23 s24 s25 s26 s27 s28 s29 s30 s31 s32 s33 s34 s35 s36 s37 s38 s39 s40 s41 s42 s43 : Value} {g gF gw bm n cw nb j : Nat} {ov : ByteArray} {ct x y z : Int} {uv : Value} {tt : Nat} {V : World} {K_ : Act → World → Prop} (HLK : Hid (∀ X,Below V.heap.size V X → (Instr.lookup 82 (.map (some bm)) (.string ov) false).run Tryz.prog X = .ok (.int .i64 (nb : Int)) X))
  (HG2 : Hid (V.cell? ⟨g,2,none⟩ = some (.slice (some ⟨gw,0,none⟩) n cw))) (HG3 : Hid (V.cell? ⟨g,3,none⟩ = some (.map (some bm)))) (HF2 : Hid (V.cell? ⟨gF,2,none⟩ = some (.string ov))) (HF11 : Hid (V.cell? ⟨gF,11,none⟩ = some (.int .i64 (ct)))) (HF12 : Hid (V.cell? ⟨gF,12,none⟩ = some (.int .i64 (x)))) (HF13 : Hid (V.cell? ⟨gF,13,none⟩ = some (.int .i64 (y)))) (HF14 : Hid (V.cell? ⟨gF,14,none⟩ = some (.int .i64 (z)))) (HW : Hid (V.cell? ⟨gw,j,none⟩ = some (.iface tt uv)))
  (HW11 : Hid (IntKind.i64.wrap ((nb : Int) - 1) = (j : Int)))
  (HX12 : Hid (j < n))
  (hQ : ∀  (W1 : World),Below V.heap.size V W1 → K_ { tmps:=#[.pointer (some ⟨g,0,none⟩),s1,s2,.pointer (some ⟨gF,0,none⟩),.iface 243 (.agg #[.iface tt uv,.int .i64 (ct),.int .i64 (x),.int .i64 (y),.int .i64 (z)]),s5,s6,s7,s8,s9,s10,s11,s12,s13,s14,s15,s16,s17,s18,.pointer (some ⟨g,0,none⟩),.pointer (some ⟨g,0,none⟩),.pointer (some ⟨g,2,none⟩),.slice (some ⟨gw,0,none⟩) n cw,.pointer (some ⟨g,0,none⟩),.pointer (some ⟨g,0,none⟩),.pointer (some ⟨g,3,none⟩),.map (some bm),.pointer (some ⟨gF,2,none⟩),.string ov,.int .i64 (nb : Int),.int .i64 (j : Int),.pointer (some ⟨gw,j,none⟩),.iface tt uv,.pointer (some ⟨gF,11,none⟩),.int .i64 (ct),.pointer (some ⟨gF,12,none⟩),.int .i64 (x),.pointer (some ⟨gF,13,none⟩),.int .i64 (y),.pointer (some ⟨gF,14,none⟩),.int .i64 (z),.agg #[.int .i64 (x),.int .i64 (y),.int .i64 (z)],.agg #[.iface tt uv,.int .i64 (ct),.int .i64 (x),.int .i64 (y),.int .i64 (z)],.iface 243 (.agg #[.iface tt uv,.int .i64 (ct),.int .i64 (x),.int .i64 (y),.int .i64 (z)])],defers:=[] } W1) :
  Go.Code.wp Tryz.prog (rg152 6) (Only K_) { tmps:=#[.pointer (some ⟨g,0,none⟩),s1,s2,.pointer (some ⟨gF,0,none⟩),s4,s5,s6,s7,s8,s9,s10,s11,s12,s13,s14,s15,s16,s17,s18,s19,s20,s21,s22,s23,s24,s25,s26,s27,s28,s29,s30,s31,s32,s33,s34,s35,s36,s37,s38,s39,s40,s41,s42,s43],defers:=[] } V:=by
 have HQ:=hide hQ;clear hQ
 conv => arg 2;whnf
 refine wp_region_inv2 (fun Lb A W => ∃ (u0 u1 u2 u3 u4 u5 u6 u7 u8 u9 u10 u11 u12 u13 u14 u15 u16 u17 u18 u19 u20 u21 u22 u23 u24 u25 : Bool) (dm : Nat),Lb = #[u0,u1,u2,u3,u4,u5,u6,u7,u8,u9,u10,u11,u12,u13,u14,u15,u16,u17,u18,u19,u20,u21,u22,u23,u24,u25] ∧ A = ({ tmps:=#[.pointer (some ⟨g,0,none⟩),s1,s2,.pointer (some ⟨gF,0,none⟩),(bif u25 then .iface 243 (.agg #[.iface tt uv,.int .i64 (ct),.int .i64 (x),.int .i64 (y),.int .i64 (z)]) else s4),s5,s6,s7,s8,s9,s10,s11,s12,s13,s14,s15,s16,s17,s18,(bif u0 then .pointer (some ⟨g,0,none⟩) else s19),(bif u1 then .pointer (some ⟨g,0,none⟩) else s20),(bif u2 then .pointer (some ⟨g,2,none⟩) else s21),(bif u3 then .slice (some ⟨gw,0,none⟩) n cw else s22),(bif u4 then .pointer (some ⟨g,0,none⟩) else s23),(bif u5 then .pointer (some ⟨g,0,none⟩) else s24),(bif u6 then .pointer (some ⟨g,3,none⟩) else s25),(bif u7 then .map (some bm) else s26),(bif u8 then .pointer (some ⟨gF,2,none⟩) else s27),(bif u9 then .string ov else s28),(bif u10 then .int .i64 (nb : Int) else s29),(bif u11 then .int .i64 (j : Int) else s30),(bif u12 then .pointer (some ⟨gw,j,none⟩) else s31),(bif u13 then .iface tt uv else s32),(bif u14 then .pointer (some ⟨gF,11,none⟩) else s33),(bif u15 then .int .i64 (ct) else s34),(bif u16 then .pointer (some ⟨gF,12,none⟩) else s35),(bif u17 then .int .i64 (x) else s36),(bif u18 then .pointer (some ⟨gF,13,none⟩) else s37),(bif u19 then .int .i64 (y) else s38),(bif u20 then .pointer (some ⟨gF,14,none⟩) else s39),(bif u21 then .int .i64 (z) else s40),(bif u22 then .agg #[.int .i64 (x),.int .i64 (y),.int .i64 (z)] else s41),(bif u23 then .agg #[.iface tt uv,.int .i64 (ct),.int .i64 (x),.int .i64 (y),.int .i64 (z)] else s42),(bif u24 then .iface 243 (.agg #[.iface tt uv,.int .i64 (ct),.int .i64 (x),.int .i64 (y),.int .i64 (z)]) else s43)],defers:=[] } : Act) ∧ Below V.heap.size V W ∧ (u25 = true → u0 = true ∧ u1 = true ∧ u2 = true ∧ u3 = true ∧ u4 = true ∧ u5 = true ∧ u6 = true ∧ u7 = true ∧ u8 = true ∧ u9 = true ∧ u10 = true ∧ u11 = true ∧ u12 = true ∧ u13 = true ∧ u14 = true ∧ u15 = true ∧ u16 = true ∧ u17 = true ∧ u18 = true ∧ u19 = true ∧ u20 = true ∧ u21 = true ∧ u22 = true ∧ u23 = true ∧ u24 = true)) (by kernel_rfl) (by kernel_rfl) ?h0 ?hstep ?hend
 case h0 =>
  exact ⟨false,false,false,false,false,false,false,false,false,false,false,false,false,false,false,false,false,false,false,false,false,false,false,false,false,false,0,rfl,rfl,Below.drew (bfl _ _),zf⟩
 case hstep =>
  intro Lb A W hI;obtain ⟨u0,u1,u2,u3,u4,hI⟩:=hI;obtain ⟨u5,u6,u7,u8,u9,hI⟩:=hI;obtain ⟨u10,u11,u12,u13,u14,hI⟩:=hI;obtain ⟨u15,u16,u17,u18,u19,hI⟩:=hI;obtain ⟨u20,u21,u22,u23,u24,hI⟩:=hI;obtain ⟨u25,dm,hI⟩:=hI;obtain ⟨hLb,hI⟩:=hI;obtain ⟨hA,hI⟩:=hI;obtain ⟨kB,hI⟩:=hI;have kF:=hI;clear hI;subst hLb;subst hA;replace kB:=hide kB;replace kF:=hide kF;refine ⟨?_,?_,?_,?_,?_,?_,?_,?_,?_,?_,?_,?_,?_,?_,?_,?_,?_,?_,?_,?_,?_,?_,?_,?_,?_,?_,trivial⟩
  ·intro h0 hd K hK
   have z : u0 = false:=h0;have z25_ : u25 = false:=znb fun hu => z.symm.trans ((zu kF hu).1)
   subst z25_;subst z;clear h0 hd;rw [if_pos (by rfl)];go_simp;exact zu hK _ _ ⟨true,u1,u2,u3,u4,u5,u6,u7,u8,u9,u10,u11,u12,u13,u14,u15,u16,u17,u18,u19,u20,u21,u22,u23,u24,false,dm,rfl,rfl,zu kB,zf⟩
  ·intro h0 hd K hK
   have z : u1 = false:=h0;have z25_ : u25 = false:=znb fun hu => z.symm.trans ((zu kF hu).2.1)
   obtain ⟨rfl⟩ : u0 = true:=by simp [Region.binds] at hd;simp [hd]
   subst z25_;subst z;clear h0 hd;rw [if_pos (by rfl)];go_simp;exact zu hK _ _ ⟨true,true,u2,u3,u4,u5,u6,u7,u8,u9,u10,u11,u12,u13,u14,u15,u16,u17,u18,u19,u20,u21,u22,u23,u24,false,dm,rfl,rfl,zu kB,zf⟩
  ·intro h0 hd K hK
   have z : u2 = false:=h0;have z25_ : u25 = false:=znb fun hu => z.symm.trans ((zu kF hu).2.2.1)
   obtain ⟨rfl⟩ : u1 = true:=by simp [Region.binds] at hd;simp [hd]
   subst z25_;subst z;clear h0 hd;rw [if_pos (by rfl)];go_simp;exact zu hK _ _ ⟨u0,true,true,u3,u4,u5,u6,u7,u8,u9,u10,u11,u12,u13,u14,u15,u16,u17,u18,u19,u20,u21,u22,u23,u24,false,dm,rfl,rfl,zu kB,zf⟩
  ·intro h0 hd K hK
   have z : u3 = false:=h0;have z25_ : u25 = false:=znb fun hu => z.symm.trans ((zu kF hu).2.2.2.1)
   obtain ⟨rfl⟩ : u2 = true:=by simp [Region.binds] at hd;simp [hd]
   subst z25_;subst z;clear h0 hd;rw [if_pos (by rfl)];have c0:=keep1 (zu kB) (zu HG2);go_simp;exact zu hK _ _ ⟨u0,u1,true,true,u4,u5,u6,u7,u8,u9,u10,u11,u12,u13,u14,u15,u16,u17,u18,u19,u20,u21,u22,u23,u24,false,dm,rfl,rfl,zu kB,zf⟩
  ·intro h0 hd K hK
   have z : u4 = false:=h0;have z25_ : u25 = false:=znb fun hu => z.symm.trans ((zu kF hu).2.2.2.2.1)
   subst z25_;subst z;clear h0 hd;rw [if_pos (by rfl)];go_simp;exact zu hK _ _ ⟨u0,u1,u2,u3,true,u5,u6,u7,u8,u9,u10,u11,u12,u13,u14,u15,u16,u17,u18,u19,u20,u21,u22,u23,u24,false,dm,rfl,rfl,zu kB,zf⟩
  ·intro h0 hd K hK
   have z : u5 = false:=h0;have z25_ : u25 = false:=znb fun hu => z.symm.trans ((zu kF hu).2.2.2.2.2.1)
   obtain ⟨rfl⟩ : u4 = true:=by simp [Region.binds] at hd;simp [hd]
   subst z25_;subst z;clear h0 hd;rw [if_pos (by rfl)];go_simp;exact zu hK _ _ ⟨u0,u1,u2,u3,true,true,u6,u7,u8,u9,u10,u11,u12,u13,u14,u15,u16,u17,u18,u19,u20,u21,u22,u23,u24,false,dm,rfl,rfl,zu kB,zf⟩
  ·intro h0 hd K hK
   have z : u6 = false:=h0;have z25_ : u25 = false:=znb fun hu => z.symm.trans ((zu kF hu).2.2.2.2.2.2.1)
   obtain ⟨rfl⟩ : u5 = true:=by simp [Region.binds] at hd;simp [hd]
   subst z25_;subst z;clear h0 hd;rw [if_pos (by rfl)];go_simp;exact zu hK _ _ ⟨u0,u1,u2,u3,u4,true,true,u7,u8,u9,u10,u11,u12,u13,u14,u15,u16,u17,u18,u19,u20,u21,u22,u23,u24,false,dm,rfl,rfl,zu kB,zf⟩
  ·intro h0 hd K hK
   have z : u7 = false:=h0;have z25_ : u25 = false:=znb fun hu => z.symm.trans ((zu kF hu).2.2.2.2.2.2.2.1)
   obtain ⟨rfl⟩ : u6 = true:=by simp [Region.binds] at hd;simp [hd]
   subst z25_;subst z;clear h0 hd;rw [if_pos (by rfl)];have c0:=keep1 (zu kB) (zu HG3);go_simp;exact zu hK _ _ ⟨u0,u1,u2,u3,u4,u5,true,true,u8,u9,u10,u11,u12,u13,u14,u15,u16,u17,u18,u19,u20,u21,u22,u23,u24,false,dm,rfl,rfl,zu kB,zf⟩
  ·intro h0 hd K hK
   have z : u8 = false:=h0;have z25_ : u25 = false:=znb fun hu => z.symm.trans ((zu kF hu).2.2.2.2.2.2.2.2.1)
   subst z25_;subst z;clear h0 hd;rw [if_pos (by rfl)];go_simp;exact zu hK _ _ ⟨u0,u1,u2,u3,u4,u5,u6,u7,true,u9,u10,u11,u12,u13,u14,u15,u16,u17,u18,u19,u20,u21,u22,u23,u24,false,dm,rfl,rfl,zu kB,zf⟩
  ·intro h0 hd K hK
   have z : u9 = false:=h0;have z25_ : u25 = false:=znb fun hu => z.symm.trans ((zu kF hu).2.2.2.2.2.2.2.2.2.1)
   obtain ⟨rfl⟩ : u8 = true:=by simp [Region.binds] at hd;simp [hd]
   subst z25_;subst z;clear h0 hd;rw [if_pos (by rfl)];have c0:=keep1 (zu kB) (zu HF2);go_simp;exact zu hK _ _ ⟨u0,u1,u2,u3,u4,u5,u6,u7,true,true,u10,u11,u12,u13,u14,u15,u16,u17,u18,u19,u20,u21,u22,u23,u24,false,dm,rfl,rfl,zu kB,zf⟩
  ·intro h0 hd K hK
   have z : u10 = false:=h0;have z25_ : u25 = false:=znb fun hu => z.symm.trans ((zu kF hu).2.2.2.2.2.2.2.2.2.2.1)
   obtain ⟨rfl,rfl⟩ : u7 = true ∧ u9 = true:=by simp [Region.binds] at hd;simp [hd]
   subst z25_;subst z;clear h0 hd;rw [if_pos (by rfl)];have q1:=zu HLK _ (zu kB);go_simp;exact zu hK _ _ ⟨u0,u1,u2,u3,u4,u5,u6,true,u8,true,true,u11,u12,u13,u14,u15,u16,u17,u18,u19,u20,u21,u22,u23,u24,false,dm,rfl,rfl,zu kB,zf⟩
  ·intro h0 hd K hK
   have z : u11 = false:=h0;have z25_ : u25 = false:=znb fun hu => z.symm.trans ((zu kF hu).2.2.2.2.2.2.2.2.2.2.2.1)
   obtain ⟨rfl⟩ : u10 = true:=by simp [Region.binds] at hd;simp [hd]
   subst z25_;subst z;clear h0 hd;rw [if_pos (by rfl)];have wq:=zu HW11;go_simp;exact zu hK _ _ ⟨u0,u1,u2,u3,u4,u5,u6,u7,u8,u9,true,true,u12,u13,u14,u15,u16,u17,u18,u19,u20,u21,u22,u23,u24,false,dm,rfl,rfl,zu kB,zf⟩
  ·intro h0 hd K hK
   have z : u12 = false:=h0;have z25_ : u25 = false:=znb fun hu => z.symm.trans ((zu kF hu).2.2.2.2.2.2.2.2.2.2.2.2.1)
   obtain ⟨rfl,rfl⟩ : u3 = true ∧ u11 = true:=by simp [Region.binds] at hd;simp [hd]
   subst z25_;subst z;clear h0 hd;rw [if_pos (by rfl)];have q1 : j < n:=zu HX12;have q2 : (j : Int) < (n : Int):=by omega
   go_simp;exact zu hK _ _ ⟨u0,u1,u2,true,u4,u5,u6,u7,u8,u9,u10,true,true,u13,u14,u15,u16,u17,u18,u19,u20,u21,u22,u23,u24,false,dm,rfl,rfl,zu kB,zf⟩
  ·intro h0 hd K hK
   have z : u13 = false:=h0;have z25_ : u25 = false:=znb fun hu => z.symm.trans ((zu kF hu).2.2.2.2.2.2.2.2.2.2.2.2.2.1)
   obtain ⟨rfl⟩ : u12 = true:=by simp [Region.binds] at hd;simp [hd]
   subst z25_;subst z;clear h0 hd;rw [if_pos (by rfl)];have c0:=keep1 (zu kB) (zu HW);go_simp;exact zu hK _ _ ⟨u0,u1,u2,u3,u4,u5,u6,u7,u8,u9,u10,u11,true,true,u14,u15,u16,u17,u18,u19,u20,u21,u22,u23,u24,false,dm,rfl,rfl,zu kB,zf⟩
  ·intro h0 hd K hK
   have z : u14 = false:=h0;have z25_ : u25 = false:=znb fun hu => z.symm.trans ((zu kF hu).2.2.2.2.2.2.2.2.2.2.2.2.2.2.1)
   subst z25_;subst z;clear h0 hd;rw [if_pos (by rfl)];go_simp;exact zu hK _ _ ⟨u0,u1,u2,u3,u4,u5,u6,u7,u8,u9,u10,u11,u12,u13,true,u15,u16,u17,u18,u19,u20,u21,u22,u23,u24,false,dm,rfl,rfl,zu kB,zf⟩
  ·intro h0 hd K hK
   have z : u15 = false:=h0;have z25_ : u25 = false:=znb fun hu => z.symm.trans ((zu kF hu).2.2.2.2.2.2.2.2.2.2.2.2.2.2.2.1)
   obtain ⟨rfl⟩ : u14 = true:=by simp [Region.binds] at hd;simp [hd]
   subst z25_;subst z;clear h0 hd;rw [if_pos (by rfl)];have c0:=keep1 (zu kB) (zu HF11);go_simp;exact zu hK _ _ ⟨u0,u1,u2,u3,u4,u5,u6,u7,u8,u9,u10,u11,u12,u13,true,true,u16,u17,u18,u19,u20,u21,u22,u23,u24,false,dm,rfl,rfl,zu kB,zf⟩
  ·intro h0 hd K hK
   have z : u16 = false:=h0;have z25_ : u25 = false:=znb fun hu => z.symm.trans ((zu kF hu).2.2.2.2.2.2.2.2.2.2.2.2.2.2.2.2.1)
   subst z25_;subst z;clear h0 hd;rw [if_pos (by rfl)];go_simp;exact zu hK _ _ ⟨u0,u1,u2,u3,u4,u5,u6,u7,u8,u9,u10,u11,u12,u13,u14,u15,true,u17,u18,u19,u20,u21,u22,u23,u24,false,dm,rfl,rfl,zu kB,zf⟩
  ·intro h0 hd K hK
   have z : u17 = false:=h0;have z25_ : u25 = false:=znb fun hu => z.symm.trans ((zu kF hu).2.2.2.2.2.2.2.2.2.2.2.2.2.2.2.2.2.1)
   obtain ⟨rfl⟩ : u16 = true:=by simp [Region.binds] at hd;simp [hd]
   subst z25_;subst z;clear h0 hd;rw [if_pos (by rfl)];have c0:=keep1 (zu kB) (zu HF12);go_simp;exact zu hK _ _ ⟨u0,u1,u2,u3,u4,u5,u6,u7,u8,u9,u10,u11,u12,u13,u14,u15,true,true,u18,u19,u20,u21,u22,u23,u24,false,dm,rfl,rfl,zu kB,zf⟩
  ·intro h0 hd K hK
   have z : u18 = false:=h0;have z25_ : u25 = false:=znb fun hu => z.symm.trans ((zu kF hu).2.2.2.2.2.2.2.2.2.2.2.2.2.2.2.2.2.2.1)
   subst z25_;subst z;clear h0 hd;rw [if_pos (by rfl)];go_simp;exact zu hK _ _ ⟨u0,u1,u2,u3,u4,u5,u6,u7,u8,u9,u10,u11,u12,u13,u14,u15,u16,u17,true,u19,u20,u21,u22,u23,u24,false,dm,rfl,rfl,zu kB,zf⟩
  ·intro h0 hd K hK
   have z : u19 = false:=h0;have z25_ : u25 = false:=znb fun hu => z.symm.trans ((zu kF hu).2.2.2.2.2.2.2.2.2.2.2.2.2.2.2.2.2.2.2.1)
   obtain ⟨rfl⟩ : u18 = true:=by simp [Region.binds] at hd;simp [hd]
   subst z25_;subst z;clear h0 hd;rw [if_pos (by rfl)];have c0:=keep1 (zu kB) (zu HF13);go_simp;exact zu hK _ _ ⟨u0,u1,u2,u3,u4,u5,u6,u7,u8,u9,u10,u11,u12,u13,u14,u15,u16,u17,true,true,u20,u21,u22,u23,u24,false,dm,rfl,rfl,zu kB,zf⟩
  ·intro h0 hd K hK
   have z : u20 = false:=h0;have z25_ : u25 = false:=znb fun hu => z.symm.trans ((zu kF hu).2.2.2.2.2.2.2.2.2.2.2.2.2.2.2.2.2.2.2.2.1)
   subst z25_;subst z;clear h0 hd;rw [if_pos (by rfl)];go_simp;exact zu hK _ _ ⟨u0,u1,u2,u3,u4,u5,u6,u7,u8,u9,u10,u11,u12,u13,u14,u15,u16,u17,u18,u19,true,u21,u22,u23,u24,false,dm,rfl,rfl,zu kB,zf⟩
  ·intro h0 hd K hK
   have z : u21 = false:=h0;have z25_ : u25 = false:=znb fun hu => z.symm.trans ((zu kF hu).2.2.2.2.2.2.2.2.2.2.2.2.2.2.2.2.2.2.2.2.2.1)
   obtain ⟨rfl⟩ : u20 = true:=by simp [Region.binds] at hd;simp [hd]
   subst z25_;subst z;clear h0 hd;rw [if_pos (by rfl)];have c0:=keep1 (zu kB) (zu HF14);go_simp;exact zu hK _ _ ⟨u0,u1,u2,u3,u4,u5,u6,u7,u8,u9,u10,u11,u12,u13,u14,u15,u16,u17,u18,u19,true,true,u22,u23,u24,false,dm,rfl,rfl,zu kB,zf⟩
  ·intro h0 hd K hK
   have z : u22 = false:=h0;have z25_ : u25 = false:=znb fun hu => z.symm.trans ((zu kF hu).2.2.2.2.2.2.2.2.2.2.2.2.2.2.2.2.2.2.2.2.2.2.1)
   obtain ⟨rfl,rfl,rfl⟩ : u17 = true ∧ u19 = true ∧ u21 = true:=by simp [Region.binds] at hd;simp [hd]
   subst z25_;subst z;clear h0 hd;rw [if_pos (by rfl)];go_simp;exact zu hK _ _ ⟨u0,u1,u2,u3,u4,u5,u6,u7,u8,u9,u10,u11,u12,u13,u14,u15,u16,true,u18,true,u20,true,true,u23,u24,false,dm,rfl,rfl,zu kB,zf⟩
  ·intro h0 hd K hK
   have z : u23 = false:=h0;have z25_ : u25 = false:=znb fun hu => z.symm.trans ((zu kF hu).2.2.2.2.2.2.2.2.2.2.2.2.2.2.2.2.2.2.2.2.2.2.2.1)
   obtain ⟨rfl,rfl,rfl⟩ : u13 = true ∧ u15 = true ∧ u22 = true:=by simp [Region.binds] at hd;simp [hd]
   subst z25_;subst z;clear h0 hd;rw [if_pos (by rfl)];go_simp;exact zu hK _ _ ⟨u0,u1,u2,u3,u4,u5,u6,u7,u8,u9,u10,u11,u12,true,u14,true,u16,u17,u18,u19,u20,u21,true,true,u24,false,dm,rfl,rfl,zu kB,zf⟩
  ·intro h0 hd K hK
   have z : u24 = false:=h0;have z25_ : u25 = false:=znb fun hu => z.symm.trans ((zu kF hu).2.2.2.2.2.2.2.2.2.2.2.2.2.2.2.2.2.2.2.2.2.2.2.2)
   obtain ⟨rfl⟩ : u23 = true:=by simp [Region.binds] at hd;simp [hd]
   subst z25_;subst z;clear h0 hd;rw [if_pos (by rfl)];go_simp;exact zu hK _ _ ⟨u0,u1,u2,u3,u4,u5,u6,u7,u8,u9,u10,u11,u12,u13,u14,u15,u16,u17,u18,u19,u20,u21,u22,true,true,false,dm,rfl,rfl,zu kB,zf⟩
  ·intro h0 hd K hK
   have z : u25 = false:=h0
   have zd0 : u0 = true ∧ u1 = true ∧ u2 = true ∧ u3 = true ∧ u4 = true ∧ u5 = true ∧ u6 = true ∧ u7 = true ∧ u8 = true ∧ u9 = true ∧ u10 = true ∧ u11 = true ∧ u12 = true ∧ u13 = true ∧ u14 = true ∧ u15 = true ∧ u16 = true ∧ u17 = true ∧ u18 = true ∧ u19 = true ∧ u20 = true ∧ u21 = true ∧ u22 = true ∧ u23 = true ∧ u24 = true:=by
    simp [Region.binds] at hd;simp [hd]
   have zd : u0 = true ∧ u1 = true ∧ u2 = true ∧ u3 = true ∧ u4 = true ∧ u5 = true ∧ u6 = true ∧ u7 = true ∧ u8 = true ∧ u9 = true ∧ u10 = true ∧ u11 = true ∧ u12 = true ∧ u13 = true ∧ u14 = true ∧ u15 = true ∧ u16 = true ∧ u17 = true ∧ u18 = true ∧ u19 = true ∧ u20 = true ∧ u21 = true ∧ u22 = true ∧ u23 = true ∧ u24 = true:=⟨zd0.1,zd0.2.1,zd0.2.2.1,zd0.2.2.2.1,zd0.2.2.2.2.1,zd0.2.2.2.2.2.1,zd0.2.2.2.2.2.2.1,zd0.2.2.2.2.2.2.2.1,zd0.2.2.2.2.2.2.2.2.1,zd0.2.2.2.2.2.2.2.2.2.1,zd0.2.2.2.2.2.2.2.2.2.2.1,zd0.2.2.2.2.2.2.2.2.2.2.2.1,zd0.2.2.2.2.2.2.2.2.2.2.2.2.1,zd0.2.2.2.2.2.2.2.2.2.2.2.2.2.1,zd0.2.2.2.2.2.2.2.2.2.2.2.2.2.2.1,zd0.2.2.2.2.2.2.2.2.2.2.2.2.2.2.2.1,zd0.2.2.2.2.2.2.2.2.2.2.2.2.2.2.2.2.1,zd0.2.2.2.2.2.2.2.2.2.2.2.2.2.2.2.2.2.1,zd0.2.2.2.2.2.2.2.2.2.2.2.2.2.2.2.2.2.2.1,zd0.2.2.2.2.2.2.2.2.2.2.2.2.2.2.2.2.2.2.2.1,zd0.2.2.2.2.2.2.2.2.2.2.2.2.2.2.2.2.2.2.2.2.1,zd0.2.2.2.2.2.2.2.2.2.2.2.2.2.2.2.2.2.2.2.2.2.1,zd0.2.2.2.2.2.2.2.2.2.2.2.2.2.2.2.2.2.2.2.2.2.2.1,zd0.2.2.2.2.2.2.2.2.2.2.2.2.2.2.2.2.2.2.2.2.2.2.2.1,zd0.2.2.2.2.2.2.2.2.2.2.2.2.2.2.2.2.2.2.2.2.2.2.2.2⟩
   obtain ⟨rfl,rfl,rfl,rfl,rfl,rfl,rfl,rfl,rfl,rfl,rfl,rfl,rfl,rfl,rfl,rfl,rfl,rfl,rfl,rfl,rfl,rfl,rfl,rfl,rfl⟩:=zd;subst z;clear h0 hd;rw [if_pos (by rfl)];go_simp;exact zu hK _ _ ⟨true,true,true,true,true,true,true,true,true,true,true,true,true,true,true,true,true,true,true,true,true,true,true,true,true,true,dm,rfl,rfl,zu kB,(fun _ => ⟨rfl,rfl,rfl,rfl,rfl,rfl,rfl,rfl,rfl,rfl,rfl,rfl,rfl,rfl,rfl,rfl,rfl,rfl,rfl,rfl,rfl,rfl,rfl,rfl,rfl⟩)⟩
 case hend =>
  intro Lb A W hI;obtain ⟨u0,u1,u2,u3,u4,hI⟩:=hI;obtain ⟨u5,u6,u7,u8,u9,hI⟩:=hI;obtain ⟨u10,u11,u12,u13,u14,hI⟩:=hI;obtain ⟨u15,u16,u17,u18,u19,hI⟩:=hI;obtain ⟨u20,u21,u22,u23,u24,hI⟩:=hI;obtain ⟨u25,dm,hI⟩:=hI;obtain ⟨hLb,hI⟩:=hI;obtain ⟨hA,hI⟩:=hI;obtain ⟨kB,hI⟩:=hI;have kF:=hI;clear hI;subst hLb;subst hA;intro hL
  have hl : u0 = true ∧ u1 = true ∧ u2 = true ∧ u3 = true ∧ u4 = true ∧ u5 = true ∧ u6 = true ∧ u7 = true ∧ u8 = true ∧ u9 = true ∧ u10 = true ∧ u11 = true ∧ u12 = true ∧ u13 = true ∧ u14 = true ∧ u15 = true ∧ u16 = true ∧ u17 = true ∧ u18 = true ∧ u19 = true ∧ u20 = true ∧ u21 = true ∧ u22 = true ∧ u23 = true ∧ u24 = true ∧ u25 = true:=by
   have h2:=congrArg Array.toList hL
   simpa [List.replicate] using h2
  obtain ⟨rfl,rfl,rfl,rfl,rfl,rfl,rfl,rfl,rfl,rfl,rfl,rfl,rfl,rfl,rfl,rfl,rfl,rfl,rfl,rfl,rfl,rfl,rfl,rfl,rfl,rfl⟩:=hl;exact zu HQ   W kB
structure Fc where
 nm : ByteArray
 sd : Nat
 l : List Bx
noncomputable def fcc (f : Fc) : List Value:=[.string f.nm,.int .i64 (f.sd : Int),.int .i64 (f.l.length : Int),.int .i64 ((pcsL f.l : Nat) : Int),.int .i64 (hul f.l).x0,.int .i64 (hul f.l).y0,.int .i64 (hul f.l).z0,.int .i64 (hul f.l).x1,.int .i64 (hul f.l).y1,.int .i64 (hul f.l).z1]
theorem fcc_len (f : Fc) : (fcc f).length = 10:=rfl
open Classical in
noncomputable def fcsN (fs : List Ft) (D : Bd) (s : ByteArray) : Nat → List Fc
 | 0 => []
 | n + 1 => fcsN fs D s n ++ (if ofO (tlds fs D) (byOf fs D.done s) (n + 1) = [] then [] else [⟨s,n + 1,ofO (tlds fs D) (byOf fs D.done s) (n + 1)⟩])
theorem fcsN_nil {fs : List Ft} {D : Bd} {s : ByteArray} {n : Nat} (h : ofO (tlds fs D) (byOf fs D.done s) (n + 1) = []) : fcsN fs D s (n + 1) = fcsN fs D s n:=by
 show fcsN fs D s n ++ _ = _
 rw [if_pos h,List.append_nil]
theorem fcsN_cons {fs : List Ft} {D : Bd} {s : ByteArray} {n : Nat} (h : ofO (tlds fs D) (byOf fs D.done s) (n + 1) ≠ []) : fcsN fs D s (n + 1) = fcsN fs D s n ++ [⟨s,n + 1,ofO (tlds fs D) (byOf fs D.done s) (n + 1)⟩]:=by
 show fcsN fs D s n ++ _ = _
 rw [if_neg h]
noncomputable def fcsL (fs : List Ft) (D : Bd) (l : List ByteArray) : List Fc:=l.flatMap fun s => fcsN fs D s 6
noncomputable def fcs (fs : List Ft) (D : Bd) : List Fc:=fcsL fs D (srt (onm fs D.done))
theorem fcsL_take {fs : List Ft} {D : Bd} {l : List ByteArray} {i : Nat} {s : ByteArray} (h : l[i]? = some s) : fcsL fs D (l.take (i + 1)) = fcsL fs D (l.take i) ++ fcsN fs D s 6:=by
 unfold fcsL;rw [List.take_add_one,h,List.flatMap_append];simp
theorem fcsN_len (fs : List Ft) (D : Bd) (s : ByteArray) : ∀ n,(fcsN fs D s n).length ≤ n
 | 0 => Nat.le_refl _
 | n + 1 => by
  have:=fcsN_len fs D s n;unfold fcsN;rw [List.length_append]
  split <;> simp <;> omega
theorem fcsL_len (fs : List Ft) (D : Bd) : ∀ l : List ByteArray,(fcsL fs D l).length ≤ l.length * 6
 | [] => Nat.le_refl _
 | s :: l => by
  have h1:=fcsL_len fs D l;have h2:=fcsN_len fs D s 6
  show (fcsN fs D s 6 ++ fcsL fs D l).length ≤ _
  rw [List.length_append,List.length_cons];omega
def volN (c : Cs) (n : Nat) : Nat:=((List.range n).filter c.full).length
theorem volN_succ (c : Cs) (n : Nat) : volN c (n + 1) = volN c n + (if c.full n = true then 1 else 0):=by
 unfold volN;rw [List.range_succ,List.filter_append,List.length_append]
 cases e : c.full n <;> simp [List.filter_cons,e]
theorem volN_le (c : Cs) (n : Nat) : volN c n ≤ n:=by
 unfold volN;have:=List.length_filter_le c.full (List.range n)
 rwa [List.length_range] at this
theorem tlds_nb {fs : List Ft} {D : Bd} (h : Okd fs D) {q : Sq} (hq : q ∈ tlds fs D) : (1 ≤ q.nb ∧ q.nb ≤ D.done.length) ∧ 1 ≤ q.sd ∧ q.sd ≤ 6:=by
 unfold tlds at hq;rw [List.mem_map] at hq;obtain ⟨a,ha,rfl⟩:=hq;obtain ⟨h1,h2,h3⟩:=sqs_nb h.iv.le (fun k hk hf => (h.iv.on k hk hf).1) ha;unfold tld
 split
 ·refine ⟨h1,?_⟩
  show 1 ≤ opp a.sd ∧ opp a.sd ≤ 6
  unfold opp
  split <;> omega
 ·exact ⟨h1,h2,h3⟩
theorem byL_step (fs : List Ft) (l : List Nat) (s : ByteArray) (n : Nat) : byL fs l s (n + 1) = if sEq (fs.getD (l.getD n 0) ft0).nm s = true then n + 1 else byL fs l s n:=rfl
noncomputable def rg45 (id : Nat) : Go.Code:=match Tryz.f45.body with | some c => (regOfZ id c).getD .skip | none => .skip
theorem pa16 {s1 s2 s3 s4 s5 s8 s10 s11 s12 s13 s14 s15 s16 s17 s18 s19 s20 s21 s22 s23 s24 s25 s26 s27 s28 s29 s30 s31 s32 s33 s34 s35 s36 s37 s38 s39 s40 s41 s42 s43 s44 s45 s46 s47 s48 s49 s50 s51 s52 s53 s54 s55 s56 s57 s58 s59 s60 s61 s62 s63 s64 s65 s66 s67 s68 s69 s70 s71 s72 s73 s74 s75 s76 s77 s78 s79 s80 s81 s82 s83 s84 s85 s86 s87 s88 s89 s90 s91 s92 s93 s94 s95 : Value} {gM gd gn k i m cn dl co : Nat} {sa sb : ByteArray} {qb : Bool} {V : World} {K_ : Act → World → Prop} (HEQ : Hid ((sa.toList == sb.toList) = qb))
  (HC0 : Hid (V.cell? ⟨gM,4,none⟩ = some (.slice (some ⟨gd,0,none⟩) dl co))) (HC1 : Hid (V.cell? ⟨gd,k,none⟩ = some (.string sa))) (HC2 : Hid (V.cell? ⟨gn,i,none⟩ = some (.string sb)))
  (HX5 : Hid (k < dl))
  (HX9 : Hid (i < m))
  (hQ : ∀  (W1 : World),Below V.heap.size V W1 → K_ { tmps:=#[.pointer (some ⟨gM,0,none⟩),s1,s2,s3,s4,s5,.slice (some ⟨gn,0,none⟩) m cn,.int .i64 (i : Int),s8,.int .i64 (k : Int),s10,s11,s12,s13,s14,s15,s16,s17,s18,s19,s20,s21,s22,s23,s24,s25,s26,s27,s28,s29,s30,s31,s32,s33,s34,s35,s36,s37,s38,s39,s40,s41,s42,s43,s44,s45,s46,s47,s48,s49,s50,s51,s52,s53,s54,s55,s56,s57,s58,.pointer (some ⟨gM,0,none⟩),.pointer (some ⟨gM,0,none⟩),.pointer (some ⟨gM,4,none⟩),.slice (some ⟨gd,0,none⟩) dl co,.int .i64 (k : Int),.pointer (some ⟨gd,k,none⟩),.string sa,.slice (some ⟨gn,0,none⟩) m cn,.int .i64 (i : Int),.pointer (some ⟨gn,i,none⟩),.string sb,.bool (qb),s71,s72,s73,s74,s75,s76,s77,s78,s79,s80,s81,s82,s83,s84,s85,s86,s87,s88,s89,s90,s91,s92,s93,s94,s95],defers:=[] } W1) :
  Go.Code.wp Tryz.prog (rg45 16) (Only K_) { tmps:=#[.pointer (some ⟨gM,0,none⟩),s1,s2,s3,s4,s5,.slice (some ⟨gn,0,none⟩) m cn,.int .i64 (i : Int),s8,.int .i64 (k : Int),s10,s11,s12,s13,s14,s15,s16,s17,s18,s19,s20,s21,s22,s23,s24,s25,s26,s27,s28,s29,s30,s31,s32,s33,s34,s35,s36,s37,s38,s39,s40,s41,s42,s43,s44,s45,s46,s47,s48,s49,s50,s51,s52,s53,s54,s55,s56,s57,s58,s59,s60,s61,s62,s63,s64,s65,s66,s67,s68,s69,s70,s71,s72,s73,s74,s75,s76,s77,s78,s79,s80,s81,s82,s83,s84,s85,s86,s87,s88,s89,s90,s91,s92,s93,s94,s95],defers:=[] } V:=by
 have HQ:=hide hQ;clear hQ
 conv => arg 2;whnf
 refine wp_region_inv2 (fun Lb A W => ∃ (u0 u1 u2 u3 u4 u5 u6 u7 u8 u9 u10 u11 : Bool) (dm : Nat),Lb = #[u0,u1,u2,u3,u4,u5,u6,u7,u8,u9,u10,u11] ∧ A = ({ tmps:=#[.pointer (some ⟨gM,0,none⟩),s1,s2,s3,s4,s5,.slice (some ⟨gn,0,none⟩) m cn,.int .i64 (i : Int),s8,.int .i64 (k : Int),s10,s11,s12,s13,s14,s15,s16,s17,s18,s19,s20,s21,s22,s23,s24,s25,s26,s27,s28,s29,s30,s31,s32,s33,s34,s35,s36,s37,s38,s39,s40,s41,s42,s43,s44,s45,s46,s47,s48,s49,s50,s51,s52,s53,s54,s55,s56,s57,s58,(bif u0 then .pointer (some ⟨gM,0,none⟩) else s59),(bif u1 then .pointer (some ⟨gM,0,none⟩) else s60),(bif u2 then .pointer (some ⟨gM,4,none⟩) else s61),(bif u3 then .slice (some ⟨gd,0,none⟩) dl co else s62),(bif u4 then .int .i64 (k : Int) else s63),(bif u5 then .pointer (some ⟨gd,k,none⟩) else s64),(bif u6 then .string sa else s65),(bif u7 then .slice (some ⟨gn,0,none⟩) m cn else s66),(bif u8 then .int .i64 (i : Int) else s67),(bif u9 then .pointer (some ⟨gn,i,none⟩) else s68),(bif u10 then .string sb else s69),(bif u11 then .bool (qb) else s70),s71,s72,s73,s74,s75,s76,s77,s78,s79,s80,s81,s82,s83,s84,s85,s86,s87,s88,s89,s90,s91,s92,s93,s94,s95],defers:=[] } : Act) ∧ Below V.heap.size V W ∧ (u1 = true → u0 = true) ∧ (u2 = true → u1 = true) ∧ (u3 = true → u2 = true) ∧ (u5 = true → u3 = true ∧ u4 = true) ∧ (u6 = true → u5 = true) ∧ (u9 = true → u7 = true ∧ u8 = true) ∧ (u10 = true → u9 = true) ∧ (u11 = true → u0 = true ∧ u1 = true ∧ u2 = true ∧ u3 = true ∧ u4 = true ∧ u5 = true ∧ u6 = true ∧ u7 = true ∧ u8 = true ∧ u9 = true ∧ u10 = true)) (by kernel_rfl) (by kernel_rfl) ?h0 ?hstep ?hend
 case h0 =>
  exact ⟨false,false,false,false,false,false,false,false,false,false,false,false,0,rfl,rfl,Below.drew (bfl _ _),zf,zf,zf,zf,zf,zf,zf,zf⟩
 case hstep =>
  intro Lb A W hI;obtain ⟨u0,u1,u2,u3,u4,hI⟩:=hI;obtain ⟨u5,u6,u7,u8,u9,hI⟩:=hI;obtain ⟨u10,u11,dm,hI⟩:=hI;obtain ⟨hLb,hI⟩:=hI;obtain ⟨hA,hI⟩:=hI;obtain ⟨kB,hI⟩:=hI;obtain ⟨l1,hI⟩:=hI;obtain ⟨l2,hI⟩:=hI;obtain ⟨l3,hI⟩:=hI;obtain ⟨l5,hI⟩:=hI;obtain ⟨l6,hI⟩:=hI;obtain ⟨l9,hI⟩:=hI;obtain ⟨l10,hI⟩:=hI;have kF:=hI;clear hI;subst hLb;subst hA;replace kB:=hide kB;replace l1:=hide l1;replace l2:=hide l2;replace l3:=hide l3;replace l5:=hide l5;replace l6:=hide l6;replace l9:=hide l9;replace l10:=hide l10;replace kF:=hide kF
  refine ⟨?_,?_,?_,?_,?_,?_,?_,?_,?_,?_,?_,?_,trivial⟩
  ·intro h0 hd K hK
   have z : u0 = false:=h0;have z11_ : u11 = false:=znb fun hu => z.symm.trans ((zu kF hu).1)
   subst z11_;subst z;clear h0 hd;rw [if_pos (by rfl)];go_simp;exact zu hK _ _ ⟨true,u1,u2,u3,u4,u5,u6,u7,u8,u9,u10,false,dm,rfl,rfl,zu kB,(fun h => rfl),zu l2,zu l3,zu l5,zu l6,zu l9,zu l10,zf⟩
  ·intro h0 hd K hK
   have z : u1 = false:=h0;have z11_ : u11 = false:=znb fun hu => z.symm.trans ((zu kF hu).2.1)
   obtain ⟨rfl⟩ : u0 = true:=by simp [Region.binds] at hd;simp [hd]
   subst z11_;subst z;clear h0 hd;rw [if_pos (by rfl)];go_simp;exact zu hK _ _ ⟨true,true,u2,u3,u4,u5,u6,u7,u8,u9,u10,false,dm,rfl,rfl,zu kB,(fun _ => rfl),(fun h => rfl),zu l3,zu l5,zu l6,zu l9,zu l10,zf⟩
  ·intro h0 hd K hK
   have z : u2 = false:=h0;have z11_ : u11 = false:=znb fun hu => z.symm.trans ((zu kF hu).2.2.1)
   obtain ⟨rfl⟩ : u1 = true:=by simp [Region.binds] at hd;simp [hd]
   subst z11_;subst z;clear h0 hd;rw [if_pos (by rfl)];go_simp;exact zu hK _ _ ⟨u0,true,true,u3,u4,u5,u6,u7,u8,u9,u10,false,dm,rfl,rfl,zu kB,zu l1,(fun _ => rfl),(fun h => rfl),zu l5,zu l6,zu l9,zu l10,zf⟩
  ·intro h0 hd K hK
   have z : u3 = false:=h0;have z11_ : u11 = false:=znb fun hu => z.symm.trans ((zu kF hu).2.2.2.1)
   obtain ⟨rfl⟩ : u2 = true:=by simp [Region.binds] at hd;simp [hd]
   subst z11_;subst z;clear h0 hd;rw [if_pos (by rfl)];have c0:=keep1 (zu kB) (zu HC0);go_simp;exact zu hK _ _ ⟨u0,u1,true,true,u4,u5,u6,u7,u8,u9,u10,false,dm,rfl,rfl,zu kB,zu l1,zu l2,(fun _ => rfl),(fun h => ⟨rfl,(zu l5 h).2⟩),zu l6,zu l9,zu l10,zf⟩
  ·intro h0 hd K hK
   have z : u4 = false:=h0;have z11_ : u11 = false:=znb fun hu => z.symm.trans ((zu kF hu).2.2.2.2.1)
   subst z11_;subst z;clear h0 hd;rw [if_pos (by rfl)];go_simp;exact zu hK _ _ ⟨u0,u1,u2,u3,true,u5,u6,u7,u8,u9,u10,false,dm,rfl,rfl,zu kB,zu l1,zu l2,zu l3,(fun h => ⟨(zu l5 h).1,rfl⟩),zu l6,zu l9,zu l10,zf⟩
  ·intro h0 hd K hK
   have z : u5 = false:=h0;have z11_ : u11 = false:=znb fun hu => z.symm.trans ((zu kF hu).2.2.2.2.2.1)
   obtain ⟨rfl,rfl⟩ : u3 = true ∧ u4 = true:=by simp [Region.binds] at hd;simp [hd]
   subst z11_;subst z;clear h0 hd;rw [if_pos (by rfl)];have q1 : k < dl:=zu HX5;have q2 : (k : Int) < (dl : Int):=by omega
   go_simp;exact zu hK _ _ ⟨u0,u1,u2,true,true,true,u6,u7,u8,u9,u10,false,dm,rfl,rfl,zu kB,zu l1,zu l2,zu l3,(fun _ => ⟨rfl,rfl⟩),(fun h => rfl),zu l9,zu l10,zf⟩
  ·intro h0 hd K hK
   have z : u6 = false:=h0;have z11_ : u11 = false:=znb fun hu => z.symm.trans ((zu kF hu).2.2.2.2.2.2.1)
   obtain ⟨rfl⟩ : u5 = true:=by simp [Region.binds] at hd;simp [hd]
   subst z11_;subst z;clear h0 hd;rw [if_pos (by rfl)];have c0:=keep1 (zu kB) (zu HC1);go_simp;exact zu hK _ _ ⟨u0,u1,u2,u3,u4,true,true,u7,u8,u9,u10,false,dm,rfl,rfl,zu kB,zu l1,zu l2,zu l3,zu l5,(fun _ => rfl),zu l9,zu l10,zf⟩
  ·intro h0 hd K hK
   have z : u7 = false:=h0;have z11_ : u11 = false:=znb fun hu => z.symm.trans ((zu kF hu).2.2.2.2.2.2.2.1)
   subst z11_;subst z;clear h0 hd;rw [if_pos (by rfl)];go_simp;exact zu hK _ _ ⟨u0,u1,u2,u3,u4,u5,u6,true,u8,u9,u10,false,dm,rfl,rfl,zu kB,zu l1,zu l2,zu l3,zu l5,zu l6,(fun h => ⟨rfl,(zu l9 h).2⟩),zu l10,zf⟩
  ·intro h0 hd K hK
   have z : u8 = false:=h0;have z11_ : u11 = false:=znb fun hu => z.symm.trans ((zu kF hu).2.2.2.2.2.2.2.2.1)
   subst z11_;subst z;clear h0 hd;rw [if_pos (by rfl)];go_simp;exact zu hK _ _ ⟨u0,u1,u2,u3,u4,u5,u6,u7,true,u9,u10,false,dm,rfl,rfl,zu kB,zu l1,zu l2,zu l3,zu l5,zu l6,(fun h => ⟨(zu l9 h).1,rfl⟩),zu l10,zf⟩
  ·intro h0 hd K hK
   have z : u9 = false:=h0;have z11_ : u11 = false:=znb fun hu => z.symm.trans ((zu kF hu).2.2.2.2.2.2.2.2.2.1)
   obtain ⟨rfl,rfl⟩ : u7 = true ∧ u8 = true:=by simp [Region.binds] at hd;simp [hd]
   subst z11_;subst z;clear h0 hd;rw [if_pos (by rfl)];have q1 : i < m:=zu HX9;have q2 : (i : Int) < (m : Int):=by omega
   go_simp;exact zu hK _ _ ⟨u0,u1,u2,u3,u4,u5,u6,true,true,true,u10,false,dm,rfl,rfl,zu kB,zu l1,zu l2,zu l3,zu l5,zu l6,(fun _ => ⟨rfl,rfl⟩),(fun h => rfl),zf⟩
  ·intro h0 hd K hK
   have z : u10 = false:=h0;have z11_ : u11 = false:=znb fun hu => z.symm.trans ((zu kF hu).2.2.2.2.2.2.2.2.2.2)
   obtain ⟨rfl⟩ : u9 = true:=by simp [Region.binds] at hd;simp [hd]
   subst z11_;subst z;clear h0 hd;rw [if_pos (by rfl)];have c0:=keep1 (zu kB) (zu HC2);go_simp;exact zu hK _ _ ⟨u0,u1,u2,u3,u4,u5,u6,u7,u8,true,true,false,dm,rfl,rfl,zu kB,zu l1,zu l2,zu l3,zu l5,zu l6,zu l9,(fun _ => rfl),zf⟩
  ·intro h0 hd K hK
   have z : u11 = false:=h0
   have zd0 : u6 = true ∧ u10 = true:=by
    simp [Region.binds] at hd;simp [hd]
   have zd : u6 = true ∧ u10 = true ∧ u0 = true ∧ u1 = true ∧ u2 = true ∧ u3 = true ∧ u4 = true ∧ u5 = true ∧ u7 = true ∧ u8 = true ∧ u9 = true:=⟨zd0.1,zd0.2,(zu l1 (zu l2 (zu l3 (zu l5 (zu l6 zd0.1)).1))),(zu l2 (zu l3 (zu l5 (zu l6 zd0.1)).1)),(zu l3 (zu l5 (zu l6 zd0.1)).1),(zu l5 (zu l6 zd0.1)).1,(zu l5 (zu l6 zd0.1)).2,(zu l6 zd0.1),(zu l9 (zu l10 zd0.2)).1,(zu l9 (zu l10 zd0.2)).2,(zu l10 zd0.2)⟩
   obtain ⟨rfl,rfl,rfl,rfl,rfl,rfl,rfl,rfl,rfl,rfl,rfl⟩:=zd;subst z;clear h0 hd;rw [if_pos (by rfl)];have heq9:=zu HEQ;go_simp;exact zu hK _ _ ⟨true,true,true,true,true,true,true,true,true,true,true,true,dm,rfl,rfl,zu kB,(fun _ => rfl),(fun _ => rfl),(fun _ => rfl),(fun _ => ⟨rfl,rfl⟩),(fun _ => rfl),(fun _ => ⟨rfl,rfl⟩),(fun _ => rfl),(fun _ => ⟨rfl,rfl,rfl,rfl,rfl,rfl,rfl,rfl,rfl,rfl,rfl⟩)⟩
 case hend =>
  intro Lb A W hI;obtain ⟨u0,u1,u2,u3,u4,hI⟩:=hI;obtain ⟨u5,u6,u7,u8,u9,hI⟩:=hI;obtain ⟨u10,u11,dm,hI⟩:=hI;obtain ⟨hLb,hI⟩:=hI;obtain ⟨hA,hI⟩:=hI;obtain ⟨kB,hI⟩:=hI;obtain ⟨l1,hI⟩:=hI;obtain ⟨l2,hI⟩:=hI;obtain ⟨l3,hI⟩:=hI;obtain ⟨l5,hI⟩:=hI;obtain ⟨l6,hI⟩:=hI;obtain ⟨l9,hI⟩:=hI;obtain ⟨l10,hI⟩:=hI;have kF:=hI;clear hI;subst hLb;subst hA;intro hL
  have hl : u0 = true ∧ u1 = true ∧ u2 = true ∧ u3 = true ∧ u4 = true ∧ u5 = true ∧ u6 = true ∧ u7 = true ∧ u8 = true ∧ u9 = true ∧ u10 = true ∧ u11 = true:=by
   have h2:=congrArg Array.toList hL
   simpa [List.replicate] using h2
  obtain ⟨rfl,rfl,rfl,rfl,rfl,rfl,rfl,rfl,rfl,rfl,rfl,rfl⟩:=hl;exact zu HQ   W kB
def ktN (k : Int) : Nat:=if k = 1 then 240 else 241
def wkU (fs : List Ft) (f : Ft) : Wk:=if f.kd = 3 then .row (ktN (ofF fs f).kd) (ftB (ofF fs f)) f.ct.toNat f.dx f.dy f.dz else .free (ktN f.kd) (ftB f)
theorem wkU_bx (fs : List Ft) (f : Ft) : (wkU fs f).bx = bxs fs f:=by
 unfold wkU bxs
 split
 ·rfl
 ·rfl
theorem wkU_t (fs : List Ft) (f : Ft) : (wkU fs f).t = ktN (kdF fs f):=by
 unfold wkU kdF
 split
 ·rfl
 ·rfl
theorem unmoved1_any (g : Nat) (f : Ft) (w : World) (hf : f.kd = 1) : Calls Tryz.prog 152 #[.pointer (some ⟨g,0,none⟩),ftv f] w fun e w' => e = .returned (.iface 240 (bxv (ftB f))) ∧ Below w.heap.size w w':=by
 obtain ⟨s,o,v,k,d,x0,y0,z0,x1,y1,z1,n,dx,dy,dz⟩:=f;simp only at hf;subst hf;unfold ftv ftB bxv;simp only;go_enter Tryz.func152,Tryz.ntmps152;go_wp2_with fail;go_ret;refine ⟨rfl,?_⟩
 repeat (first | exact bfl _ _ | refine Below.setCell ?_ (Nat.le_refl _) _ | refine Below.setCell ?_ (by simp) _ | refine ba ?_ _)
theorem unmoved2_any (g : Nat) (f : Ft) (w : World) (hf : f.kd = 2) : Calls Tryz.prog 152 #[.pointer (some ⟨g,0,none⟩),ftv f] w fun e w' => e = .returned (.iface 241 (bxv (ftB f))) ∧ Below w.heap.size w w':=by
 obtain ⟨s,o,v,k,d,x0,y0,z0,x1,y1,z1,n,dx,dy,dz⟩:=f;simp only at hf;subst hf;unfold ftv ftB bxv;simp only;go_enter Tryz.func152,Tryz.ntmps152;go_wp2_with fail;go_ret;refine ⟨rfl,?_⟩
 repeat (first | exact bfl _ _ | refine Below.setCell ?_ (Nat.le_refl _) _ | refine Below.setCell ?_ (by simp) _ | refine ba ?_ _)
theorem unmoved3_any (g gw bm n cw cap j tt : Nat) (uv vc vd : Value) (fs : List Ft) (l : List Nat) (f : Ft) (w : World) (hf : f.kd = 3) (hs : f.ov.size ≤ maxLen) (hg : vb w g 84 [vc,vd,.slice (some ⟨gw,0,none⟩) n cw,.map (some bm)]) (hm : MpN w bm cap fs l)
  (hj : byOf fs l f.ov = j + 1) (hjn : j < n) (hjl : n ≤ 100000) (hc : w.cell? ⟨gw,j,none⟩ = some (.iface tt uv)) (hgw : gw < w.heap.size) :
  Calls Tryz.prog 152 #[.pointer (some ⟨g,0,none⟩),ftv f] w fun e w' => e = .returned (.iface 243 (.agg #[.iface tt uv,.int .i64 f.ct,.int .i64 f.dx,.int .i64 f.dy,.int .i64 f.dz])) ∧ Below w.heap.size w w':=by
 obtain ⟨s,o,v,k,d,x0,y0,z0,x1,y1,z1,ct,dx,dy,dz⟩:=f;simp only at hf hj hs ⊢;subst hf;have HLK:=hide (fun X (h : Below w.heap.size w X) => (hm.bel h).look v hs);rw [hj] at HLK;have HG:=hide (fun X (h : Below w.heap.size w X) => hg.bel h);have HC:=hide (fun X (h : Below w.heap.size w X) => keep1 h hc);have HJ:=hide hjn;have HW:=hide (show IntKind.i64.wrap (((j + 1 : Nat) : Int) - 1) = (j : Int) by rw [wrap_i (by omega) (by omega)];omega);clear hg hm hj hc hjn;unfold ftv;simp only;go_enter Tryz.func152,Tryz.ntmps152
 go_upto_region 6 with fail
 have hbA:=ba (bfl w.heap.size w) (.cells #[.string s,.string o,.string v,.int .i64 3,.int .i64 d,.int .i64 x0,.int .i64 y0,.int .i64 z0,.int .i64 x1,.int .i64 y1,.int .i64 z1,.int .i64 ct,.int .i64 dx,.int .i64 dy,.int .i64 dz] 75);have HBA:=hide hbA;have hv:=vb_new w 75 [.string s,.string o,.string v,.int .i64 3,.int .i64 d,.int .i64 x0,.int .i64 y0,.int .i64 z0,.int .i64 x1,.int .i64 y1,.int .i64 z1,.int .i64 ct,.int .i64 dx,.int .i64 dy,.int .i64 dz] w.heap.size rfl
 refine Go.Code.wp_mono (Only.to (fun _ _ h => h)) (um6 (nb:=j + 1) (j:=j) (n:=n) (hide fun X hX => zu HLK X (bc (zu HBA) hX)) (hide ((zu HG _ hbA).cell (m:=2) rfl)) (hide ((zu HG _ hbA).cell (m:=3) rfl)) (hide (hv.cell (m:=2) rfl)) (hide (hv.cell (m:=11) rfl)) (hide (hv.cell (m:=12) rfl)) (hide (hv.cell (m:=13) rfl)) (hide (hv.cell (m:=14) rfl)) (hide (zu HC _ hbA)) HW HJ ?_);intro W1 hb1;have HB1:=hide (bc (zu HBA) hb1);clear hb1 hbA hv;go_wp2_with fail;go_ret;exact ⟨rfl,zu HB1⟩
end Go.Proofs.YtkiplmabjeadgaaGreat
