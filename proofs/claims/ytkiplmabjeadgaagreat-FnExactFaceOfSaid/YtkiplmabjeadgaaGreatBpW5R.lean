/- Whether a text is among texts, the model's way. -/
import Derived.Test.YtkiplmabjeadgaaGreatRunesR
import Derived.Test.YtkiplmabjeadgaaGreatBpW1R
import Derived.Test.YtkiplmabjeadgaaGreatBdF9R
namespace Go.Proofs.YtkiplmabjeadgaaGreat
set_option maxRecDepth 100000
set_option maxHeartbeats 16000000
open Go.ChangeShapes Go.WideShapes Go.ChangeAt Go.RowKit
set_option linter.unusedVariables false
set_option linter.unusedSimpArgs false
noncomputable def rg251 (id : Nat) : Go.Code:=match Tryz.f251.body with | some c => (regOfZ id c).getD .skip | none => .skip
def One (L : List Value) (W : World) (v : Value) : Prop:=∃ g,v = .slice (some ⟨g,0,none⟩) 1 1 ∧ vb W g 41 L
theorem One.bel {L : List Value} {W W' : World} {v : Value} (h : One L W v) (hb : Below W.heap.size W W') : One L W' v:=by
 obtain ⟨g,e,h⟩:=h;exact ⟨g,e,h.bel hb⟩
theorem wk5b {s0 s2 s5 s6 s7 s8 s9 s10 s11 s12 s13 s14 s15 s16 s17 s18 s19 s20 s21 s22 : Value} {gr m t B t1 : Nat} {x y z tx ty tz : Int} {vo vi bv : Value} {L L1 : List Value} {V : World} {K_ : Act → World → Prop} (HR : Hid (V.ownsRow B 41 6 vo m L)) (hBV : B ≤ V.heap.size) (hm : m ≤ 1000) (HL1 : Hid (L1.length = 6)) (HOC : Hid (∀ u ∈ L1,u.oneCell' = true))
  (HC0 : Hid (V.cell? ⟨gr,0,none⟩ = some (vi))) (HC2 : Hid (V.cell? ⟨gr,2,none⟩ = some (.int .i64 (x)))) (HC3 : Hid (V.cell? ⟨gr,3,none⟩ = some (.int .i64 (y)))) (HC4 : Hid (V.cell? ⟨gr,4,none⟩ = some (.int .i64 (z))))
  (HW6 : Hid (IntKind.i64.wrap ((t : Int) + 1) = (t1 : Int)))
  (HF7 : Hid (∀ Xw,Below V.heap.size V Xw → Calls Tryz.prog 252 #[.agg #[.int .i64 (x),.int .i64 (y),.int .i64 (z)],.int .i64 (t1 : Int)] Xw fun e w' => e = .returned (.agg #[.int .i64 (tx),.int .i64 (ty),.int .i64 (tz)]) ∧ Below Xw.heap.size Xw w'))
  (HF8 : Hid (∀ Xw,Below V.heap.size V Xw → Calls Tryz.prog 153 #[vi,.agg #[.int .i64 (tx),.int .i64 (ty),.int .i64 (tz)]] Xw fun e w' => e = .returned (.iface 240 bv) ∧ Below Xw.heap.size Xw w'))
  (HF9 : Hid (∀ Xw,Below V.heap.size V Xw → Calls Tryz.prog 247 #[bv] Xw fun e w' => (∃ r_,e = .returned (r_) ∧ One L1 w' r_) ∧ Below Xw.heap.size Xw w'))
  (hQ : ∀  (vq : Value) (rr : Value) (W1 W9 : World),Below V.heap.size V W1 → W9.ownsRow B 41 6 rr (m + 1) (L ++ L1) → W1.grownBy W9 vo.ownBlock → K_ { tmps:=#[s0,.pointer (some ⟨gr,0,none⟩),s2,rr,.int .i64 (t : Int),s5,s6,s7,s8,s9,vo,.pointer (some ⟨gr,0,none⟩),vi,.pointer (some ⟨gr,2,none⟩),.agg #[.int .i64 (x),.int .i64 (y),.int .i64 (z)],.int .i64 (t : Int),.int .i64 (t1 : Int),.agg #[.int .i64 (tx),.int .i64 (ty),.int .i64 (tz)],.iface 240 bv,vq,rr,s21,s22],defers:=[] } W9) :
  Go.Code.wp Tryz.prog (rg251 5) (Only K_) { tmps:=#[s0,.pointer (some ⟨gr,0,none⟩),s2,vo,.int .i64 (t : Int),s5,s6,s7,s8,s9,s10,s11,s12,s13,s14,s15,s16,s17,s18,s19,s20,s21,s22],defers:=[] } V:=by
 have HQ:=hide hQ;clear hQ;obtain ⟨iT,ht,hy0,hy1,hy2⟩:=info_parts info65
 conv => arg 2;whnf
 refine wp_region_inv2 (fun Lb A W => ∃ (u0 u1 u2 u3 u4 u5 u6 u7 u8 u9 u10 u11 : Bool) (rr : Value) (vq : Value),Lb = #[u0,u1,u2,u3,u4,u5,u6,u7,u8,u9,u10,u11] ∧ A = ({ tmps:=#[s0,.pointer (some ⟨gr,0,none⟩),s2,(bif u11 then rr else vo),.int .i64 (t : Int),s5,s6,s7,s8,s9,(bif u0 then vo else s10),(bif u1 then .pointer (some ⟨gr,0,none⟩) else s11),(bif u2 then vi else s12),(bif u3 then .pointer (some ⟨gr,2,none⟩) else s13),(bif u4 then .agg #[.int .i64 (x),.int .i64 (y),.int .i64 (z)] else s14),(bif u5 then .int .i64 (t : Int) else s15),(bif u6 then .int .i64 (t1 : Int) else s16),(bif u7 then .agg #[.int .i64 (tx),.int .i64 (ty),.int .i64 (tz)] else s17),(bif u8 then .iface 240 bv else s18),(bif u9 then vq else s19),(bif u10 then rr else s20),s21,s22],defers:=[] } : Act) ∧ (u10 = false → Below V.heap.size V W) ∧ (u10 = true → ∃ W1,Below V.heap.size V W1 ∧ W.ownsRow B 41 6 rr (m + 1) (L ++ L1) ∧ W1.grownBy W vo.ownBlock) ∧ (u9 = true → u10 = false → One L1 W vq) ∧ (u2 = true → u1 = true) ∧ (u4 = true → u3 = true) ∧ (u6 = true → u5 = true) ∧ (u7 = true → u4 = true ∧ u6 = true) ∧ (u8 = true → u2 = true ∧ u7 = true) ∧ (u9 = true → u8 = true) ∧ (u10 = true → u0 = true ∧ u9 = true) ∧ (u11 = true → u0 = true ∧ u1 = true ∧ u2 = true ∧ u3 = true ∧ u4 = true ∧ u5 = true ∧ u6 = true ∧ u7 = true ∧ u8 = true ∧ u9 = true ∧ u10 = true)) (by kernel_rfl) (by kernel_rfl) ?h0 ?hstep ?hend
 case h0 =>
  exact ⟨false,false,false,false,false,false,false,false,false,false,false,false,undef,undef,rfl,rfl,(fun _ => Below.drew (bfl _ _)),zf,zf,zf,zf,zf,zf,zf,zf,zf,zf⟩
 case hstep =>
  intro Lb A W hI;obtain ⟨u0,u1,u2,u3,u4,hI⟩:=hI;obtain ⟨u5,u6,u7,u8,u9,hI⟩:=hI;obtain ⟨u10,u11,rr,vq,hI⟩:=hI;obtain ⟨hLb,hI⟩:=hI;obtain ⟨hA,hI⟩:=hI;obtain ⟨kB,hI⟩:=hI;obtain ⟨kZ,hI⟩:=hI;obtain ⟨kx9,hI⟩:=hI;obtain ⟨l2,hI⟩:=hI;obtain ⟨l4,hI⟩:=hI;obtain ⟨l6,hI⟩:=hI;obtain ⟨l7,hI⟩:=hI;obtain ⟨l8,hI⟩:=hI;obtain ⟨l9,hI⟩:=hI;obtain ⟨l10,hI⟩:=hI;have kF:=hI;clear hI;subst hLb;subst hA;replace kB:=hide kB;replace kZ:=hide kZ;replace kx9:=hide kx9;replace l2:=hide l2;replace l4:=hide l4;replace l6:=hide l6;replace l7:=hide l7
  replace l8:=hide l8;replace l9:=hide l9;replace l10:=hide l10;replace kF:=hide kF;refine ⟨?_,?_,?_,?_,?_,?_,?_,?_,?_,?_,?_,?_,trivial⟩
  ·intro h0 hd K hK
   have z : u0 = false:=h0;have z11_ : u11 = false:=znb fun hu => z.symm.trans ((zu kF hu).1)
   have z10_ : u10 = false:=znb fun hu => z.symm.trans ((zu l10 hu).1)
   subst z11_;subst z10_;subst z;clear h0 hd;rw [if_pos (by rfl)];go_simp;exact zu hK _ _ ⟨true,u1,u2,u3,u4,u5,u6,u7,u8,u9,false,false,rr,vq,rfl,rfl,zu kB,zf,zu kx9,zu l2,zu l4,zu l6,zu l7,zu l8,zu l9,zf,zf⟩
  ·intro h0 hd K hK
   have z : u1 = false:=h0;have z11_ : u11 = false:=znb fun hu => z.symm.trans ((zu kF hu).2.1)
   have z10_ : u10 = false:=znb fun hu => z.symm.trans ((zu l2 (zu l8 (zu l9 (zu l10 hu).2)).1))
   subst z11_;subst z10_;subst z;clear h0 hd;rw [if_pos (by rfl)];go_simp;exact zu hK _ _ ⟨u0,true,u2,u3,u4,u5,u6,u7,u8,u9,false,false,rr,vq,rfl,rfl,zu kB,zf,zu kx9,(fun h => rfl),zu l4,zu l6,zu l7,zu l8,zu l9,zf,zf⟩
  ·intro h0 hd K hK
   have z : u2 = false:=h0;have z11_ : u11 = false:=znb fun hu => z.symm.trans ((zu kF hu).2.2.1)
   have z10_ : u10 = false:=znb fun hu => z.symm.trans ((zu l8 (zu l9 (zu l10 hu).2)).1)
   obtain ⟨rfl⟩ : u1 = true:=by simp [Region.binds] at hd;simp [hd]
   subst z11_;subst z10_;subst z;clear h0 hd;rw [if_pos (by rfl)];have c0:=keep1 (zu kB rfl) (zu HC0);go_simp;exact zu hK _ _ ⟨u0,true,true,u3,u4,u5,u6,u7,u8,u9,false,false,rr,vq,rfl,rfl,zu kB,zf,zu kx9,(fun _ => rfl),zu l4,zu l6,zu l7,(fun h => ⟨rfl,(zu l8 h).2⟩),zu l9,zf,zf⟩
  ·intro h0 hd K hK
   have z : u3 = false:=h0;have z11_ : u11 = false:=znb fun hu => z.symm.trans ((zu kF hu).2.2.2.1)
   have z10_ : u10 = false:=znb fun hu => z.symm.trans ((zu l4 (zu l7 (zu l8 (zu l9 (zu l10 hu).2)).2).1))
   subst z11_;subst z10_;subst z;clear h0 hd;rw [if_pos (by rfl)];go_simp;exact zu hK _ _ ⟨u0,u1,u2,true,u4,u5,u6,u7,u8,u9,false,false,rr,vq,rfl,rfl,zu kB,zf,zu kx9,zu l2,(fun h => rfl),zu l6,zu l7,zu l8,zu l9,zf,zf⟩
  ·intro h0 hd K hK
   have z : u4 = false:=h0;have z11_ : u11 = false:=znb fun hu => z.symm.trans ((zu kF hu).2.2.2.2.1)
   have z10_ : u10 = false:=znb fun hu => z.symm.trans ((zu l7 (zu l8 (zu l9 (zu l10 hu).2)).2).1)
   obtain ⟨rfl⟩ : u3 = true:=by simp [Region.binds] at hd;simp [hd]
   subst z11_;subst z10_;subst z;clear h0 hd;rw [if_pos (by rfl)];have c0:=keep1 (zu kB rfl) (zu HC2);have c1:=keep1 (zu kB rfl) (zu HC3);have c2:=keep1 (zu kB rfl) (zu HC4);go_simp;exact zu hK _ _ ⟨u0,u1,u2,true,true,u5,u6,u7,u8,u9,false,false,rr,vq,rfl,rfl,zu kB,zf,zu kx9,zu l2,(fun _ => rfl),zu l6,(fun h => ⟨rfl,(zu l7 h).2⟩),zu l8,zu l9,zf,zf⟩
  ·intro h0 hd K hK
   have z : u5 = false:=h0;have z11_ : u11 = false:=znb fun hu => z.symm.trans ((zu kF hu).2.2.2.2.2.1)
   have z10_ : u10 = false:=znb fun hu => z.symm.trans ((zu l6 (zu l7 (zu l8 (zu l9 (zu l10 hu).2)).2).2))
   subst z11_;subst z10_;subst z;clear h0 hd;rw [if_pos (by rfl)];go_simp;exact zu hK _ _ ⟨u0,u1,u2,u3,u4,true,u6,u7,u8,u9,false,false,rr,vq,rfl,rfl,zu kB,zf,zu kx9,zu l2,zu l4,(fun h => rfl),zu l7,zu l8,zu l9,zf,zf⟩
  ·intro h0 hd K hK
   have z : u6 = false:=h0;have z11_ : u11 = false:=znb fun hu => z.symm.trans ((zu kF hu).2.2.2.2.2.2.1)
   have z10_ : u10 = false:=znb fun hu => z.symm.trans ((zu l7 (zu l8 (zu l9 (zu l10 hu).2)).2).2)
   obtain ⟨rfl⟩ : u5 = true:=by simp [Region.binds] at hd;simp [hd]
   subst z11_;subst z10_;subst z;clear h0 hd;rw [if_pos (by rfl)];have wq:=zu HW6;go_simp;exact zu hK _ _ ⟨u0,u1,u2,u3,u4,true,true,u7,u8,u9,false,false,rr,vq,rfl,rfl,zu kB,zf,zu kx9,zu l2,zu l4,(fun _ => rfl),(fun h => ⟨(zu l7 h).1,rfl⟩),zu l8,zu l9,zf,zf⟩
  ·intro h0 hd K hK
   have z : u7 = false:=h0;have z11_ : u11 = false:=znb fun hu => z.symm.trans ((zu kF hu).2.2.2.2.2.2.2.1)
   have z10_ : u10 = false:=znb fun hu => z.symm.trans ((zu l8 (zu l9 (zu l10 hu).2)).2)
   obtain ⟨rfl,rfl⟩ : u4 = true ∧ u6 = true:=by simp [Region.binds] at hd;simp [hd]
   subst z11_;subst z10_;subst z;clear h0 hd;rw [if_pos (by rfl)];go_simp;refine (zu HF7 W (zu kB rfl)).mono ?_;rintro e w8 ⟨rfl,hb8⟩;exact zu hK _ _ ⟨u0,u1,u2,u3,true,u5,true,true,u8,u9,false,false,rr,vq,rfl,rfl,(fun _ => bc (zu kB rfl) hb8),zf,(fun h h2 => One.bel (zu kx9 h h2) hb8),zu l2,zu l4,zu l6,(fun _ => ⟨rfl,rfl⟩),(fun h => ⟨(zu l8 h).1,rfl⟩),zu l9,zf,zf⟩
  ·intro h0 hd K hK
   have z : u8 = false:=h0;have z11_ : u11 = false:=znb fun hu => z.symm.trans ((zu kF hu).2.2.2.2.2.2.2.2.1)
   have z10_ : u10 = false:=znb fun hu => z.symm.trans ((zu l9 (zu l10 hu).2))
   obtain ⟨rfl,rfl⟩ : u2 = true ∧ u7 = true:=by simp [Region.binds] at hd;simp [hd]
   subst z11_;subst z10_;subst z;clear h0 hd;rw [if_pos (by rfl)];go_simp;refine (zu HF8 W (zu kB rfl)).mono ?_;rintro e w8 ⟨rfl,hb8⟩;exact zu hK _ _ ⟨u0,u1,true,u3,u4,u5,u6,true,true,u9,false,false,rr,vq,rfl,rfl,(fun _ => bc (zu kB rfl) hb8),zf,(fun h h2 => One.bel (zu kx9 h h2) hb8),zu l2,zu l4,zu l6,zu l7,(fun _ => ⟨rfl,rfl⟩),(fun h => rfl),zf,zf⟩
  ·intro h0 hd K hK
   have z : u9 = false:=h0;have z11_ : u11 = false:=znb fun hu => z.symm.trans ((zu kF hu).2.2.2.2.2.2.2.2.2.1)
   have z10_ : u10 = false:=znb fun hu => z.symm.trans ((zu l10 hu).2)
   obtain ⟨rfl⟩ : u8 = true:=by simp [Region.binds] at hd;simp [hd]
   subst z11_;subst z10_;subst z;clear h0 hd;rw [if_pos (by rfl)];have hme:=me247;go_simp;refine (zu HF9 W (zu kB rfl)).mono ?_;rintro e w8 ⟨⟨r_,rfl,hr_⟩,hb8⟩;exact zu hK _ _ ⟨u0,u1,u2,u3,u4,u5,u6,u7,true,true,false,false,rr,r_,rfl,rfl,(fun _ => bc (zu kB rfl) hb8),zf,(fun _ _ => hr_),zu l2,zu l4,zu l6,zu l7,zu l8,(fun _ => rfl),zf,zf⟩
  ·intro h0 hd K hK
   have z : u10 = false:=h0;have z11_ : u11 = false:=znb fun hu => z.symm.trans ((zu kF hu).2.2.2.2.2.2.2.2.2.2)
   obtain ⟨rfl,rfl⟩ : u0 = true ∧ u9 = true:=by simp [Region.binds] at hd;simp [hd]
   subst z11_;subst z;clear h0 hd;rw [if_pos (by rfl)];obtain ⟨g9,hv9,h7⟩:=zu kx9 rfl rfl;subst hv9
   have hb:=(zu kB rfl)
   refine wp_append_own W (.tmp 10) (.tmp 19) 148 (by rfl) B 41 iT _ 6 48 Tryz.underlying148 ht hy0 hy1 hy2 rfl (by decide) vo m L (by rfl) (own_bel (zu HR) hb) ⟨g9,0,none⟩ 1 1 L1 (by rfl) (by rw [zu HL1]) (fun j u hj => by rw [add_none,Nat.zero_add];exact h7.cell hj) (zu HOC) (by unfold maxLen;omega) (by omega) (Nat.le_trans hBV hb.size) ?_;intro r8' w1 hown' hgrow _;have R9:=hown'
   exact zu hK _ _ ⟨true,u1,u2,u3,u4,u5,u6,u7,u8,true,true,false,r8',(.slice (some ⟨g9,0,none⟩) 1 1),rfl,rfl,zt,(fun _ => ⟨W,hb,R9,hgrow⟩),(fun _ => zt),zu l2,zu l4,zu l6,zu l7,zu l8,zu l9,(fun _ => ⟨rfl,rfl⟩),zf⟩
  ·intro h0 hd K hK
   have z : u11 = false:=h0
   have zd0 : u0 = true ∧ u1 = true ∧ u2 = true ∧ u3 = true ∧ u4 = true ∧ u5 = true ∧ u6 = true ∧ u7 = true ∧ u8 = true ∧ u9 = true ∧ u10 = true:=by
    simp [Region.binds] at hd;simp [hd]
   have zd : u0 = true ∧ u1 = true ∧ u2 = true ∧ u3 = true ∧ u4 = true ∧ u5 = true ∧ u6 = true ∧ u7 = true ∧ u8 = true ∧ u9 = true ∧ u10 = true:=⟨zd0.1,zd0.2.1,zd0.2.2.1,zd0.2.2.2.1,zd0.2.2.2.2.1,zd0.2.2.2.2.2.1,zd0.2.2.2.2.2.2.1,zd0.2.2.2.2.2.2.2.1,zd0.2.2.2.2.2.2.2.2.1,zd0.2.2.2.2.2.2.2.2.2.1,zd0.2.2.2.2.2.2.2.2.2.2⟩
   obtain ⟨rfl,rfl,rfl,rfl,rfl,rfl,rfl,rfl,rfl,rfl,rfl⟩:=zd;subst z;clear h0 hd;rw [if_pos (by rfl)];go_simp;exact zu hK _ _ ⟨true,true,true,true,true,true,true,true,true,true,true,true,rr,vq,rfl,rfl,zu kB,zu kZ,(fun _ => zt),(fun _ => rfl),(fun _ => rfl),(fun _ => rfl),(fun _ => ⟨rfl,rfl⟩),(fun _ => ⟨rfl,rfl⟩),(fun _ => rfl),(fun _ => ⟨rfl,rfl⟩),(fun _ => ⟨rfl,rfl,rfl,rfl,rfl,rfl,rfl,rfl,rfl,rfl,rfl⟩)⟩
 case hend =>
  intro Lb A W hI;obtain ⟨u0,u1,u2,u3,u4,hI⟩:=hI;obtain ⟨u5,u6,u7,u8,u9,hI⟩:=hI;obtain ⟨u10,u11,rr,vq,hI⟩:=hI;obtain ⟨hLb,hI⟩:=hI;obtain ⟨hA,hI⟩:=hI;obtain ⟨kB,hI⟩:=hI;obtain ⟨kZ,hI⟩:=hI;obtain ⟨kx9,hI⟩:=hI;obtain ⟨l2,hI⟩:=hI;obtain ⟨l4,hI⟩:=hI;obtain ⟨l6,hI⟩:=hI;obtain ⟨l7,hI⟩:=hI;obtain ⟨l8,hI⟩:=hI;obtain ⟨l9,hI⟩:=hI;obtain ⟨l10,hI⟩:=hI;have kF:=hI;clear hI;subst hLb;subst hA;intro hL
  have hl : u0 = true ∧ u1 = true ∧ u2 = true ∧ u3 = true ∧ u4 = true ∧ u5 = true ∧ u6 = true ∧ u7 = true ∧ u8 = true ∧ u9 = true ∧ u10 = true ∧ u11 = true:=by
   have h2:=congrArg Array.toList hL
   simpa [List.replicate] using h2
  obtain ⟨rfl,rfl,rfl,rfl,rfl,rfl,rfl,rfl,rfl,rfl,rfl,rfl⟩:=hl;obtain ⟨W1,hA,hZ,hG⟩:=kZ rfl;exact zu HQ  vq rr W1 W hA hZ hG
theorem wk5p {s0 s2 s5 s6 s7 s8 s9 s10 s11 s12 s13 s14 s15 s16 s17 s18 s19 s20 s21 s22 : Value} {gr m t B t1 : Nat} {x y z tx ty tz : Int} {vo vi bv : Value} {L L1 : List Value} {V : World} {K_ : Act → World → Prop} (HR : Hid (V.ownsRow B 41 6 vo m L)) (hBV : B ≤ V.heap.size) (hm : m ≤ 1000) (HL1 : Hid (L1.length = 6)) (HOC : Hid (∀ u ∈ L1,u.oneCell' = true))
  (HC0 : Hid (V.cell? ⟨gr,0,none⟩ = some (vi))) (HC2 : Hid (V.cell? ⟨gr,2,none⟩ = some (.int .i64 (x)))) (HC3 : Hid (V.cell? ⟨gr,3,none⟩ = some (.int .i64 (y)))) (HC4 : Hid (V.cell? ⟨gr,4,none⟩ = some (.int .i64 (z))))
  (HW6 : Hid (IntKind.i64.wrap ((t : Int) + 1) = (t1 : Int)))
  (HF7 : Hid (∀ Xw,Below V.heap.size V Xw → Calls Tryz.prog 252 #[.agg #[.int .i64 (x),.int .i64 (y),.int .i64 (z)],.int .i64 (t1 : Int)] Xw fun e w' => e = .returned (.agg #[.int .i64 (tx),.int .i64 (ty),.int .i64 (tz)]) ∧ Below Xw.heap.size Xw w'))
  (HF8 : Hid (∀ Xw,Below V.heap.size V Xw → Calls Tryz.prog 153 #[vi,.agg #[.int .i64 (tx),.int .i64 (ty),.int .i64 (tz)]] Xw fun e w' => e = .returned (.iface 241 bv) ∧ Below Xw.heap.size Xw w'))
  (HF9 : Hid (∀ Xw,Below V.heap.size V Xw → Calls Tryz.prog 249 #[bv] Xw fun e w' => (∃ r_,e = .returned (r_) ∧ One L1 w' r_) ∧ Below Xw.heap.size Xw w'))
  (hQ : ∀  (vq : Value) (rr : Value) (W1 W9 : World),Below V.heap.size V W1 → W9.ownsRow B 41 6 rr (m + 1) (L ++ L1) → W1.grownBy W9 vo.ownBlock → K_ { tmps:=#[s0,.pointer (some ⟨gr,0,none⟩),s2,rr,.int .i64 (t : Int),s5,s6,s7,s8,s9,vo,.pointer (some ⟨gr,0,none⟩),vi,.pointer (some ⟨gr,2,none⟩),.agg #[.int .i64 (x),.int .i64 (y),.int .i64 (z)],.int .i64 (t : Int),.int .i64 (t1 : Int),.agg #[.int .i64 (tx),.int .i64 (ty),.int .i64 (tz)],.iface 241 bv,vq,rr,s21,s22],defers:=[] } W9) :
  Go.Code.wp Tryz.prog (rg251 5) (Only K_) { tmps:=#[s0,.pointer (some ⟨gr,0,none⟩),s2,vo,.int .i64 (t : Int),s5,s6,s7,s8,s9,s10,s11,s12,s13,s14,s15,s16,s17,s18,s19,s20,s21,s22],defers:=[] } V:=by
 have HQ:=hide hQ;clear hQ;obtain ⟨iT,ht,hy0,hy1,hy2⟩:=info_parts info65
 conv => arg 2;whnf
 refine wp_region_inv2 (fun Lb A W => ∃ (u0 u1 u2 u3 u4 u5 u6 u7 u8 u9 u10 u11 : Bool) (rr : Value) (vq : Value),Lb = #[u0,u1,u2,u3,u4,u5,u6,u7,u8,u9,u10,u11] ∧ A = ({ tmps:=#[s0,.pointer (some ⟨gr,0,none⟩),s2,(bif u11 then rr else vo),.int .i64 (t : Int),s5,s6,s7,s8,s9,(bif u0 then vo else s10),(bif u1 then .pointer (some ⟨gr,0,none⟩) else s11),(bif u2 then vi else s12),(bif u3 then .pointer (some ⟨gr,2,none⟩) else s13),(bif u4 then .agg #[.int .i64 (x),.int .i64 (y),.int .i64 (z)] else s14),(bif u5 then .int .i64 (t : Int) else s15),(bif u6 then .int .i64 (t1 : Int) else s16),(bif u7 then .agg #[.int .i64 (tx),.int .i64 (ty),.int .i64 (tz)] else s17),(bif u8 then .iface 241 bv else s18),(bif u9 then vq else s19),(bif u10 then rr else s20),s21,s22],defers:=[] } : Act) ∧ (u10 = false → Below V.heap.size V W) ∧ (u10 = true → ∃ W1,Below V.heap.size V W1 ∧ W.ownsRow B 41 6 rr (m + 1) (L ++ L1) ∧ W1.grownBy W vo.ownBlock) ∧ (u9 = true → u10 = false → One L1 W vq) ∧ (u2 = true → u1 = true) ∧ (u4 = true → u3 = true) ∧ (u6 = true → u5 = true) ∧ (u7 = true → u4 = true ∧ u6 = true) ∧ (u8 = true → u2 = true ∧ u7 = true) ∧ (u9 = true → u8 = true) ∧ (u10 = true → u0 = true ∧ u9 = true) ∧ (u11 = true → u0 = true ∧ u1 = true ∧ u2 = true ∧ u3 = true ∧ u4 = true ∧ u5 = true ∧ u6 = true ∧ u7 = true ∧ u8 = true ∧ u9 = true ∧ u10 = true)) (by kernel_rfl) (by kernel_rfl) ?h0 ?hstep ?hend
 case h0 =>
  exact ⟨false,false,false,false,false,false,false,false,false,false,false,false,undef,undef,rfl,rfl,(fun _ => Below.drew (bfl _ _)),zf,zf,zf,zf,zf,zf,zf,zf,zf,zf⟩
 case hstep =>
  intro Lb A W hI;obtain ⟨u0,u1,u2,u3,u4,hI⟩:=hI;obtain ⟨u5,u6,u7,u8,u9,hI⟩:=hI;obtain ⟨u10,u11,rr,vq,hI⟩:=hI;obtain ⟨hLb,hI⟩:=hI;obtain ⟨hA,hI⟩:=hI;obtain ⟨kB,hI⟩:=hI;obtain ⟨kZ,hI⟩:=hI;obtain ⟨kx9,hI⟩:=hI;obtain ⟨l2,hI⟩:=hI;obtain ⟨l4,hI⟩:=hI;obtain ⟨l6,hI⟩:=hI;obtain ⟨l7,hI⟩:=hI;obtain ⟨l8,hI⟩:=hI;obtain ⟨l9,hI⟩:=hI;obtain ⟨l10,hI⟩:=hI;have kF:=hI;clear hI;subst hLb;subst hA;replace kB:=hide kB;replace kZ:=hide kZ;replace kx9:=hide kx9;replace l2:=hide l2;replace l4:=hide l4;replace l6:=hide l6;replace l7:=hide l7
  replace l8:=hide l8;replace l9:=hide l9;replace l10:=hide l10;replace kF:=hide kF;refine ⟨?_,?_,?_,?_,?_,?_,?_,?_,?_,?_,?_,?_,trivial⟩
  ·intro h0 hd K hK
   have z : u0 = false:=h0;have z11_ : u11 = false:=znb fun hu => z.symm.trans ((zu kF hu).1)
   have z10_ : u10 = false:=znb fun hu => z.symm.trans ((zu l10 hu).1)
   subst z11_;subst z10_;subst z;clear h0 hd;rw [if_pos (by rfl)];go_simp;exact zu hK _ _ ⟨true,u1,u2,u3,u4,u5,u6,u7,u8,u9,false,false,rr,vq,rfl,rfl,zu kB,zf,zu kx9,zu l2,zu l4,zu l6,zu l7,zu l8,zu l9,zf,zf⟩
  ·intro h0 hd K hK
   have z : u1 = false:=h0;have z11_ : u11 = false:=znb fun hu => z.symm.trans ((zu kF hu).2.1)
   have z10_ : u10 = false:=znb fun hu => z.symm.trans ((zu l2 (zu l8 (zu l9 (zu l10 hu).2)).1))
   subst z11_;subst z10_;subst z;clear h0 hd;rw [if_pos (by rfl)];go_simp;exact zu hK _ _ ⟨u0,true,u2,u3,u4,u5,u6,u7,u8,u9,false,false,rr,vq,rfl,rfl,zu kB,zf,zu kx9,(fun h => rfl),zu l4,zu l6,zu l7,zu l8,zu l9,zf,zf⟩
  ·intro h0 hd K hK
   have z : u2 = false:=h0;have z11_ : u11 = false:=znb fun hu => z.symm.trans ((zu kF hu).2.2.1)
   have z10_ : u10 = false:=znb fun hu => z.symm.trans ((zu l8 (zu l9 (zu l10 hu).2)).1)
   obtain ⟨rfl⟩ : u1 = true:=by simp [Region.binds] at hd;simp [hd]
   subst z11_;subst z10_;subst z;clear h0 hd;rw [if_pos (by rfl)];have c0:=keep1 (zu kB rfl) (zu HC0);go_simp;exact zu hK _ _ ⟨u0,true,true,u3,u4,u5,u6,u7,u8,u9,false,false,rr,vq,rfl,rfl,zu kB,zf,zu kx9,(fun _ => rfl),zu l4,zu l6,zu l7,(fun h => ⟨rfl,(zu l8 h).2⟩),zu l9,zf,zf⟩
  ·intro h0 hd K hK
   have z : u3 = false:=h0;have z11_ : u11 = false:=znb fun hu => z.symm.trans ((zu kF hu).2.2.2.1)
   have z10_ : u10 = false:=znb fun hu => z.symm.trans ((zu l4 (zu l7 (zu l8 (zu l9 (zu l10 hu).2)).2).1))
   subst z11_;subst z10_;subst z;clear h0 hd;rw [if_pos (by rfl)];go_simp;exact zu hK _ _ ⟨u0,u1,u2,true,u4,u5,u6,u7,u8,u9,false,false,rr,vq,rfl,rfl,zu kB,zf,zu kx9,zu l2,(fun h => rfl),zu l6,zu l7,zu l8,zu l9,zf,zf⟩
  ·intro h0 hd K hK
   have z : u4 = false:=h0;have z11_ : u11 = false:=znb fun hu => z.symm.trans ((zu kF hu).2.2.2.2.1)
   have z10_ : u10 = false:=znb fun hu => z.symm.trans ((zu l7 (zu l8 (zu l9 (zu l10 hu).2)).2).1)
   obtain ⟨rfl⟩ : u3 = true:=by simp [Region.binds] at hd;simp [hd]
   subst z11_;subst z10_;subst z;clear h0 hd;rw [if_pos (by rfl)];have c0:=keep1 (zu kB rfl) (zu HC2);have c1:=keep1 (zu kB rfl) (zu HC3);have c2:=keep1 (zu kB rfl) (zu HC4);go_simp;exact zu hK _ _ ⟨u0,u1,u2,true,true,u5,u6,u7,u8,u9,false,false,rr,vq,rfl,rfl,zu kB,zf,zu kx9,zu l2,(fun _ => rfl),zu l6,(fun h => ⟨rfl,(zu l7 h).2⟩),zu l8,zu l9,zf,zf⟩
  ·intro h0 hd K hK
   have z : u5 = false:=h0;have z11_ : u11 = false:=znb fun hu => z.symm.trans ((zu kF hu).2.2.2.2.2.1)
   have z10_ : u10 = false:=znb fun hu => z.symm.trans ((zu l6 (zu l7 (zu l8 (zu l9 (zu l10 hu).2)).2).2))
   subst z11_;subst z10_;subst z;clear h0 hd;rw [if_pos (by rfl)];go_simp;exact zu hK _ _ ⟨u0,u1,u2,u3,u4,true,u6,u7,u8,u9,false,false,rr,vq,rfl,rfl,zu kB,zf,zu kx9,zu l2,zu l4,(fun h => rfl),zu l7,zu l8,zu l9,zf,zf⟩
  ·intro h0 hd K hK
   have z : u6 = false:=h0;have z11_ : u11 = false:=znb fun hu => z.symm.trans ((zu kF hu).2.2.2.2.2.2.1)
   have z10_ : u10 = false:=znb fun hu => z.symm.trans ((zu l7 (zu l8 (zu l9 (zu l10 hu).2)).2).2)
   obtain ⟨rfl⟩ : u5 = true:=by simp [Region.binds] at hd;simp [hd]
   subst z11_;subst z10_;subst z;clear h0 hd;rw [if_pos (by rfl)];have wq:=zu HW6;go_simp;exact zu hK _ _ ⟨u0,u1,u2,u3,u4,true,true,u7,u8,u9,false,false,rr,vq,rfl,rfl,zu kB,zf,zu kx9,zu l2,zu l4,(fun _ => rfl),(fun h => ⟨(zu l7 h).1,rfl⟩),zu l8,zu l9,zf,zf⟩
  ·intro h0 hd K hK
   have z : u7 = false:=h0;have z11_ : u11 = false:=znb fun hu => z.symm.trans ((zu kF hu).2.2.2.2.2.2.2.1)
   have z10_ : u10 = false:=znb fun hu => z.symm.trans ((zu l8 (zu l9 (zu l10 hu).2)).2)
   obtain ⟨rfl,rfl⟩ : u4 = true ∧ u6 = true:=by simp [Region.binds] at hd;simp [hd]
   subst z11_;subst z10_;subst z;clear h0 hd;rw [if_pos (by rfl)];go_simp;refine (zu HF7 W (zu kB rfl)).mono ?_;rintro e w8 ⟨rfl,hb8⟩;exact zu hK _ _ ⟨u0,u1,u2,u3,true,u5,true,true,u8,u9,false,false,rr,vq,rfl,rfl,(fun _ => bc (zu kB rfl) hb8),zf,(fun h h2 => One.bel (zu kx9 h h2) hb8),zu l2,zu l4,zu l6,(fun _ => ⟨rfl,rfl⟩),(fun h => ⟨(zu l8 h).1,rfl⟩),zu l9,zf,zf⟩
  ·intro h0 hd K hK
   have z : u8 = false:=h0;have z11_ : u11 = false:=znb fun hu => z.symm.trans ((zu kF hu).2.2.2.2.2.2.2.2.1)
   have z10_ : u10 = false:=znb fun hu => z.symm.trans ((zu l9 (zu l10 hu).2))
   obtain ⟨rfl,rfl⟩ : u2 = true ∧ u7 = true:=by simp [Region.binds] at hd;simp [hd]
   subst z11_;subst z10_;subst z;clear h0 hd;rw [if_pos (by rfl)];go_simp;refine (zu HF8 W (zu kB rfl)).mono ?_;rintro e w8 ⟨rfl,hb8⟩;exact zu hK _ _ ⟨u0,u1,true,u3,u4,u5,u6,true,true,u9,false,false,rr,vq,rfl,rfl,(fun _ => bc (zu kB rfl) hb8),zf,(fun h h2 => One.bel (zu kx9 h h2) hb8),zu l2,zu l4,zu l6,zu l7,(fun _ => ⟨rfl,rfl⟩),(fun h => rfl),zf,zf⟩
  ·intro h0 hd K hK
   have z : u9 = false:=h0;have z11_ : u11 = false:=znb fun hu => z.symm.trans ((zu kF hu).2.2.2.2.2.2.2.2.2.1)
   have z10_ : u10 = false:=znb fun hu => z.symm.trans ((zu l10 hu).2)
   obtain ⟨rfl⟩ : u8 = true:=by simp [Region.binds] at hd;simp [hd]
   subst z11_;subst z10_;subst z;clear h0 hd;rw [if_pos (by rfl)];have hme:=me249;go_simp;refine (zu HF9 W (zu kB rfl)).mono ?_;rintro e w8 ⟨⟨r_,rfl,hr_⟩,hb8⟩;exact zu hK _ _ ⟨u0,u1,u2,u3,u4,u5,u6,u7,true,true,false,false,rr,r_,rfl,rfl,(fun _ => bc (zu kB rfl) hb8),zf,(fun _ _ => hr_),zu l2,zu l4,zu l6,zu l7,zu l8,(fun _ => rfl),zf,zf⟩
  ·intro h0 hd K hK
   have z : u10 = false:=h0;have z11_ : u11 = false:=znb fun hu => z.symm.trans ((zu kF hu).2.2.2.2.2.2.2.2.2.2)
   obtain ⟨rfl,rfl⟩ : u0 = true ∧ u9 = true:=by simp [Region.binds] at hd;simp [hd]
   subst z11_;subst z;clear h0 hd;rw [if_pos (by rfl)];obtain ⟨g9,hv9,h7⟩:=zu kx9 rfl rfl;subst hv9
   have hb:=(zu kB rfl)
   refine wp_append_own W (.tmp 10) (.tmp 19) 148 (by rfl) B 41 iT _ 6 48 Tryz.underlying148 ht hy0 hy1 hy2 rfl (by decide) vo m L (by rfl) (own_bel (zu HR) hb) ⟨g9,0,none⟩ 1 1 L1 (by rfl) (by rw [zu HL1]) (fun j u hj => by rw [add_none,Nat.zero_add];exact h7.cell hj) (zu HOC) (by unfold maxLen;omega) (by omega) (Nat.le_trans hBV hb.size) ?_;intro r8' w1 hown' hgrow _;have R9:=hown'
   exact zu hK _ _ ⟨true,u1,u2,u3,u4,u5,u6,u7,u8,true,true,false,r8',(.slice (some ⟨g9,0,none⟩) 1 1),rfl,rfl,zt,(fun _ => ⟨W,hb,R9,hgrow⟩),(fun _ => zt),zu l2,zu l4,zu l6,zu l7,zu l8,zu l9,(fun _ => ⟨rfl,rfl⟩),zf⟩
  ·intro h0 hd K hK
   have z : u11 = false:=h0
   have zd0 : u0 = true ∧ u1 = true ∧ u2 = true ∧ u3 = true ∧ u4 = true ∧ u5 = true ∧ u6 = true ∧ u7 = true ∧ u8 = true ∧ u9 = true ∧ u10 = true:=by
    simp [Region.binds] at hd;simp [hd]
   have zd : u0 = true ∧ u1 = true ∧ u2 = true ∧ u3 = true ∧ u4 = true ∧ u5 = true ∧ u6 = true ∧ u7 = true ∧ u8 = true ∧ u9 = true ∧ u10 = true:=⟨zd0.1,zd0.2.1,zd0.2.2.1,zd0.2.2.2.1,zd0.2.2.2.2.1,zd0.2.2.2.2.2.1,zd0.2.2.2.2.2.2.1,zd0.2.2.2.2.2.2.2.1,zd0.2.2.2.2.2.2.2.2.1,zd0.2.2.2.2.2.2.2.2.2.1,zd0.2.2.2.2.2.2.2.2.2.2⟩
   obtain ⟨rfl,rfl,rfl,rfl,rfl,rfl,rfl,rfl,rfl,rfl,rfl⟩:=zd;subst z;clear h0 hd;rw [if_pos (by rfl)];go_simp;exact zu hK _ _ ⟨true,true,true,true,true,true,true,true,true,true,true,true,rr,vq,rfl,rfl,zu kB,zu kZ,(fun _ => zt),(fun _ => rfl),(fun _ => rfl),(fun _ => rfl),(fun _ => ⟨rfl,rfl⟩),(fun _ => ⟨rfl,rfl⟩),(fun _ => rfl),(fun _ => ⟨rfl,rfl⟩),(fun _ => ⟨rfl,rfl,rfl,rfl,rfl,rfl,rfl,rfl,rfl,rfl,rfl⟩)⟩
 case hend =>
  intro Lb A W hI;obtain ⟨u0,u1,u2,u3,u4,hI⟩:=hI;obtain ⟨u5,u6,u7,u8,u9,hI⟩:=hI;obtain ⟨u10,u11,rr,vq,hI⟩:=hI;obtain ⟨hLb,hI⟩:=hI;obtain ⟨hA,hI⟩:=hI;obtain ⟨kB,hI⟩:=hI;obtain ⟨kZ,hI⟩:=hI;obtain ⟨kx9,hI⟩:=hI;obtain ⟨l2,hI⟩:=hI;obtain ⟨l4,hI⟩:=hI;obtain ⟨l6,hI⟩:=hI;obtain ⟨l7,hI⟩:=hI;obtain ⟨l8,hI⟩:=hI;obtain ⟨l9,hI⟩:=hI;obtain ⟨l10,hI⟩:=hI;have kF:=hI;clear hI;subst hLb;subst hA;intro hL
  have hl : u0 = true ∧ u1 = true ∧ u2 = true ∧ u3 = true ∧ u4 = true ∧ u5 = true ∧ u6 = true ∧ u7 = true ∧ u8 = true ∧ u9 = true ∧ u10 = true ∧ u11 = true:=by
   have h2:=congrArg Array.toList hL
   simpa [List.replicate] using h2
  obtain ⟨rfl,rfl,rfl,rfl,rfl,rfl,rfl,rfl,rfl,rfl,rfl,rfl⟩:=hl;obtain ⟨W1,hA,hZ,hG⟩:=kZ rfl;exact zu HQ  vq rr W1 W hA hZ hG
def tl (a b : ByteArray) : Bool:=Op.bytesLess a.toList b.toList
theorem u8_lt_trans {a b c : UInt8} (h : a < b) (k : b < c) : a < c:=by
 rw [UInt8.lt_iff_toNat_lt] at *;omega
theorem u8_tri (a b : UInt8) : a < b ∨ a = b ∨ b < a:=by
 rcases Nat.lt_trichotomy a.toNat b.toNat with h | h | h
 ·exact .inl (UInt8.lt_iff_toNat_lt.2 h)
 ·exact .inr (.inl (UInt8.toNat_inj.1 h))
 ·exact .inr (.inr (UInt8.lt_iff_toNat_lt.2 h))
theorem bl_trans : ∀ {a b c : List UInt8},Op.bytesLess a b = true → Op.bytesLess b c = true → Op.bytesLess a c = true
 | _,[],_,h,_ => by unfold Op.bytesLess at h;cases h
 | _,b :: y,[],_,k => by unfold Op.bytesLess at k;cases k
 | [],b :: y,c :: z,_,_ => by unfold Op.bytesLess;rfl
 | a :: x,b :: y,c :: z,h,k => by
  unfold Op.bytesLess at *;simp only [Bool.or_eq_true,decide_eq_true_eq,Bool.and_eq_true,beq_iff_eq] at *
  rcases h with h | ⟨rfl,h⟩
  ·rcases k with k | ⟨rfl,k⟩
   ·exact .inl (u8_lt_trans h k)
   ·exact .inl h
  ·rcases k with k | ⟨rfl,k⟩
   ·exact .inl k
   ·exact .inr ⟨rfl,bl_trans h k⟩
theorem bl_tri : ∀ (a b : List UInt8),Op.bytesLess a b = true ∨ a = b ∨ Op.bytesLess b a = true
 | [],[] => .inr (.inl rfl)
 | [],b :: y => .inl (by unfold Op.bytesLess;rfl)
 | a :: x,[] => .inr (.inr (by unfold Op.bytesLess;rfl))
 | a :: x,b :: y => by
  unfold Op.bytesLess;simp only [Bool.or_eq_true,decide_eq_true_eq,Bool.and_eq_true,beq_iff_eq]
  rcases u8_tri a b with h | rfl | h
  ·exact .inl (.inl h)
  ·rcases bl_tri x y with h | rfl | h
   ·exact .inl (.inr ⟨rfl,h⟩)
   ·exact .inr (.inl rfl)
   ·exact .inr (.inr (.inr ⟨rfl,h⟩))
  ·exact .inr (.inr (.inl h))
theorem ba_l {s t : ByteArray} (h : s.toList = t.toList) : s = t:=by
 cases s;cases t
 rw [ByteArray.toList_eq,ByteArray.toList_eq] at h;simp only at h;rw [Array.toList_inj.1 h]
theorem tl_trans {a b c : ByteArray} (h : tl a b = true) (k : tl b c = true) : tl a c = true:=bl_trans h k
theorem tl_tri (a b : ByteArray) : tl a b = true ∨ a = b ∨ tl b a = true:=by
 rcases bl_tri a.toList b.toList with h | h | h
 ·exact .inl h
 ·exact .inr (.inl (ba_l h))
 ·exact .inr (.inr h)
def Rise (l : List ByteArray) : Prop:=l.Pairwise fun a b => tl a b = true
def psn (l : List ByteArray) (s : ByteArray) : Nat:=(l.takeWhile fun t => tl t s).length
theorem hasT_iff {l : List ByteArray} {s : ByteArray} : hasT l s = true ↔ s ∈ l:=by
 unfold hasT;rw [List.any_eq_true];constructor
 ·rintro ⟨t,ht,h⟩
  rw [← sEq_iff.1 h];exact ht
 ·intro h;exact ⟨s,h,sEq_refl s⟩
def ins (l : List ByteArray) (s : ByteArray) : List ByteArray:=if hasT l s = true then l else l.take (psn l s) ++ s :: l.drop (psn l s)
theorem rise_ins {l : List ByteArray} (h : Rise l) (s : ByteArray) : Rise (ins l s):=by
 unfold ins
 split
 ·exact h
 rename_i hs
 rw [hasT_iff] at hs
 induction l with
 | nil => simp [Rise,psn]
 | cons a r ih =>
  obtain ⟨a1,a2⟩:=List.pairwise_cons.1 h
  cases e : tl a s with
  | true =>
   have : psn (a :: r) s = psn r s + 1:=by simp [psn,List.takeWhile_cons,e]
   rw [this,List.take_succ_cons,List.drop_succ_cons,List.cons_append];refine List.pairwise_cons.2 ⟨fun b hb => ?_,ih a2 (fun h => hs (List.mem_cons_of_mem _ h))⟩
   rcases List.mem_append.1 hb with hb | hb
   ·exact a1 b (List.mem_of_mem_take hb)
   ·rcases List.mem_cons.1 hb with rfl | hb
    ·exact e
    ·exact a1 b (List.mem_of_mem_drop hb)
  | false =>
   have : psn (a :: r) s = 0:=by simp [psn,List.takeWhile_cons,e]
   rw [this]
   have hsa : tl s a = true:=by
    rcases tl_tri s a with h | h | h
    ·exact h
    ·exact (hs (by rw [h];simp)).elim
    ·rw [e] at h;cases h
   refine List.pairwise_cons.2 ⟨fun b hb => ?_,h⟩
   rcases List.mem_cons.1 hb with rfl | hb
   ·exact hsa
   ·exact tl_trans hsa (a1 b hb)
theorem mem_ins {l : List ByteArray} {s t : ByteArray} : t ∈ ins l s ↔ t = s ∨ t ∈ l:=by
 unfold ins
 split
 ·rename_i h
  rw [hasT_iff] at h;constructor
  ·exact .inr
  ·rintro (rfl | h')
   ·exact h
   ·exact h'
 ·rw [List.mem_append,List.mem_cons]
  constructor
  ·rintro (h | h | h)
   ·exact .inr (List.mem_of_mem_take h)
   ·exact .inl h
   ·exact .inr (List.mem_of_mem_drop h)
  ·rintro (h | h)
   ·exact .inr (.inl h)
   ·rw [← List.take_append_drop (psn l s) l] at h
    rcases List.mem_append.1 h with h | h
    ·exact .inl h
    ·exact .inr (.inr h)
def srt (l : List ByteArray) : List ByteArray:=l.foldl ins []
theorem srt_go : ∀ (l acc : List ByteArray),Rise acc → Rise (l.foldl ins acc) ∧ ∀ s,s ∈ l.foldl ins acc ↔ s ∈ acc ∨ s ∈ l
 | [],acc,h => ⟨h,fun s => by simp⟩
 | a :: l,acc,h => by
  obtain ⟨h1,h2⟩:=srt_go l (ins acc a) (rise_ins h a);refine ⟨h1,fun s => ?_⟩
  show s ∈ l.foldl ins (ins acc a) ↔ _
  rw [h2,mem_ins,List.mem_cons];constructor
  ·rintro ((h | h) | h)
   ·exact .inr (.inl h)
   ·exact .inl h
   ·exact .inr (.inr h)
  ·rintro (h | h | h)
   ·exact .inl (.inr h)
   ·exact .inl (.inl h)
   ·exact .inr h
theorem mem_srt {l : List ByteArray} {s : ByteArray} : s ∈ srt l ↔ s ∈ l:=by
 unfold srt;rw [(srt_go l [] List.Pairwise.nil).2 s];simp
theorem has_any (u : Option Addr) (n cu : Nat) (l : List ByteArray) (s : ByteArray) (w : World) (hl : l.length = n) (hn : n ≤ 1048576) (hu : StAt w u l) :
  Calls Tryz.prog 77 #[.slice u n cu,.string s] w fun e w' => e = .returned (.bool (hasT l s)) ∧ w' = w:=by
 have HU:=hide hu;have HL:=hide hl;clear hu hl;go_enter Tryz.func77,Tryz.ntmps77;go_wp2
 go_loopw [5] (fun z W => ∃ i : Nat,z = .int .i64 (i : Int) ∧ i ≤ n ∧ (∀ j g,j < i → l[j]? = some g → sEq g s = false) ∧ W = w) (fun z _ => n - (intOf z).toNat)
 case atStart => exact ⟨0,rfl,Nat.zero_le _,fun j g hj => by omega,rfl⟩
 case round =>
  obtain ⟨i,rfl,hi,hno,hw⟩:=hrel;subst hw;have HN:=hide hno;clear hno
  by_cases h : i < n
  ·have i1 : (i : Int) < (n : Int):=by omega
   have i0 : (0 : Int) ≤ (i : Int):=Int.natCast_nonneg _;have iz : decide ((i : Int) < (n : Int)) = true:=dt i1;obtain ⟨f,hx⟩:=get_some (zu HL) h;have hne : l ≠ []:=by intro e;subst e;cases hx
   obtain ⟨g,o,rfl,_,hc⟩:=(zu HU) hne;have k0:=hc i f hx;have HX:=hide hx;clear hx hc hne
   cases hq : sEq f s
   ·have hq' : (f.toList == s.toList) = false:=hq
    have HQ:=hide hq;clear hq;go_wp2_with fail;go_roundw
    case rel =>
     refine ⟨i + 1,by simp,h,?_,by first | rfl | trivial⟩;intro j g hj hg
     by_cases e : j = i
     ·subst e
      rw [zu HX] at hg
      cases hg
      exact zu HQ
     ·exact zu HN j g (by omega) hg
    case measure => simp only [intOf];omega
   ·have hq' : (f.toList == s.toList) = true:=hq
    have HQ:=hide hq;clear hq;go_wp2_with fail;go_ret;exact ⟨ret_bool (hasT_yes (zu HX) (zu HQ)).symm,rfl⟩
  ·have i1 : ¬ (i : Int) < (n : Int):=by omega
   have iz : decide ((i : Int) < (n : Int)) = false:=df i1;go_wp2_with fail;go_ret;refine ⟨ret_bool (hasT_no fun j g hg => zu HN j g ?_ hg).symm,rfl⟩;have:=(List.getElem?_eq_some_iff.1 hg).1;rw [zu HL] at this;omega
end Go.Proofs.YtkiplmabjeadgaaGreat
