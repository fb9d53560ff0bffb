/- All squares, as an iterator. -/
import Derived.Test.YtkiplmabjeadgaaGreatSqAR
namespace Go.Proofs.YtkiplmabjeadgaaGreat
set_option maxRecDepth 100000
set_option maxHeartbeats 16000000
open Go.ChangeShapes Go.WideShapes Go.ChangeAt Go.RowKit Go.Shelf
attribute [local go_sem] Oper.semAt_some
set_option linter.unusedVariables false
set_option linter.unusedSimpArgs false
theorem squares_any (g : Nat) (w : World) : Calls Tryz.prog 86 #[.pointer (some ⟨g,0,none⟩)] w fun e w' => e = .returned (.func (.func 119) #[] #[.pointer (some ⟨w.heap.size,0,none⟩)]) ∧ w' = w.alloc (.cells #[.pointer (some ⟨g,0,none⟩)] 77):=by
 go_enter Tryz.func86,Tryz.ntmps86;go_wp2_with fail;go_ret;exact ⟨rfl,rfl⟩
def or3 (O : Nat → Prop) (p q r : Nat) : Nat → Prop:=fun b => or2 O p q b ∨ b = r
structure Tq (J : (Nat → Prop) → Nat → World → Prop) (l by_ br Bg g gc T : Nat) (vd vw vm : Value) (c : Cs) (O : Nat → Prop) (k : Nat) (X : World) : Prop where
 j : J (or2 O by_ br) (sqPs c k).length X
 vy : vb X by_ 193 [.func (.yield l) #[] #[]]
 vr : vb X br 41 [.int .i64 ((0 : Nat) : Int),.int .i64 ((0 : Nat) : Int),.int .i64 ((0 : Nat) : Int),.int .i64 ((24 : Nat) : Int),.int .i64 ((24 : Nat) : Int),.int .i64 ((24 : Nat) : Int)]
 vB : vb X Bg 77 [.pointer (some ⟨g,0,none⟩)]
 vg : vb X g 84 [.slice (some ⟨gc,0,none⟩) 13824 13824,vd,vw,vm]
 vc : vb X gc 141 (csl c)
 far : ∀ b,O b → T ≤ b
 big : T ≤ X.heap.size
theorem fld141 (a b : Value) (W : World) : (Instr.field 141 (.agg #[a,b]) 0).run Tryz.prog W = .ok a W:=by
 kernel_rfl
theorem plk_c (k : Nat) : plk 0 24 0 24 0 k = #[plv (cx k) (cy k) (cz k)]:=by
 unfold plk cx cy cz;simp
def sqEnc (c : Cs) (j : Nat) : Array Value:=sqe ((sqPs c 13824).getD j ⟨0,0,bx0⟩)
theorem sqEnc_at {c : Cs} {j : Nat} {q : Sq} (h : (sqPs c 13824)[j]? = some q) : sqEnc c j = sqe q:=by unfold sqEnc;rw [List.getD_eq_getElem?_getD,h];rfl
theorem sqX (g gc Bg : Nat) (vd vw vm : Value) (c : Cs) (R : Nat → Prop) (w : World) (hRg : R g) (hRc : R gc) (hRB : R Bg)
  (hB : vb w Bg 77 [.pointer (some ⟨g,0,none⟩)]) (hg : vb w g 84 [.slice (some ⟨gc,0,none⟩) 13824 13824,vd,vw,vm]) (hc : vb w gc 141 (csl c)) :
  SeqX Tryz.prog 119 #[.pointer (some ⟨Bg,0,none⟩)] (sqEnc c) (sqPs c 13824).length R w:=by
 intro l J Jx W0 hW0 hJ hJx hY h0;have HY:=hide hY;have HJ:=hide hJ;have HJX:=hide hJx;have HJ0:=hide h0
 have hlt : Bg < W0.heap.size ∧ g < W0.heap.size ∧ gc < W0.heap.size:=⟨(hB.bel hW0).lt,(hg.bel hW0).lt,(hc.bel hW0).lt⟩
 have HLT:=hide hlt;have HVB:=hide (fun X (h : Below W0.heap.size W0 X) => (hB.bel hW0).bel h);have HVG:=hide (fun X (h : Below W0.heap.size W0 X) => (hg.bel hW0).bel h);have HVC:=hide (fun X (h : Below W0.heap.size W0 X) => (hc.bel hW0).bel h);have HWH:=hide (fun X => whole_any X);have HPL:=hide (fun X => places_any ⟨0,0,0,24,24,24⟩ X);have HVY0:=hide (vb_new W0 193 [.func (.yield l) #[] #[]] W0.heap.size rfl);have HB0:=hide (show Below W0.heap.size W0 (W0.alloc (.cells #[.func (.yield l) #[] #[]] 193)) from ba (bfl _ _) _);unfold bxv at HWH HPL;unfold bxc at HPL
 clear hB hg hc hW0 hJ hJx hY h0 hlt;refine callsIn_of_wp_marks Tryz.func119 rfl trivial ?_ rfl;simp only [Tryz.ntmps119,List.size_toArray,List.length_cons,List.length_nil,Nat.reduceAdd,Nat.reduceSub,Array.replicate_succ,Array.replicate_zero,List.push_toArray,List.append_toArray,List.nil_append,List.cons_append];gi_wp2;refine ⟨trivial,rfl,(callsIn_wide.2 (zu HWH _)).mono ?_⟩;rintro _ W1 ⟨rfl,hb1⟩;have HB1:=hide (bc (zu HB0) hb1);have HVY1:=hide ((zu HVY0).bel hb1);have HS1:=hide (show W0.heap.size + 1 ≤ W1.heap.size by have:=hb1.size;simpa using this);clear hb1 HB0 HVY0
 gi_wp2;refine ⟨trivial,rfl,(callsIn_wide.2 (zu HPL _)).mono ?_⟩;rintro _ W2 ⟨rfl,hw2⟩;have HB2:=hide (show Below W0.heap.size W0 W2 by rw [hw2];exact ba (zu HB1) _);have HVY2:=hide (show vb W2 W0.heap.size 193 [.func (.yield l) #[] #[]] by rw [hw2];exact (zu HVY1).bel (ba (bfl _ _) _));have HVR2:=hide (show vb W2 W1.heap.size 41 [.int .i64 ((0 : Nat) : Int),.int .i64 ((0 : Nat) : Int),.int .i64 ((0 : Nat) : Int),.int .i64 ((24 : Nat) : Int),.int .i64 ((24 : Nat) : Int),.int .i64 ((24 : Nat) : Int)] by rw [hw2];exact vb_new W1 41 _ _ rfl)
 have hs2 : W2.heap.size = W1.heap.size + 1:=by rw [hw2];simp
 obtain ⟨br,hbr⟩ : ∃ q,W1.heap.size = q:=⟨_,rfl⟩
 have HJ2:=hide (zu HJ (fun _ => False) (or2 (fun _ => False) W0.heap.size br) 0 _ _ (zu HJ0) (Grw.of_bel (zu HB2)) (fun b hb => by have:=zu HS1;rcases hb with h | h | h;exact h.elim;exact .inr (by omega);exact .inr (by omega)));rw [hbr] at HVR2 hs2 HS1 ⊢;have HS2:=hide hs2;clear hw2 hbr HB1 HVY1 HJ0 HWH HPL;gi_wp2
 refine range_x (R:=fun b => b = br) (N:=24 * 24 * 24) (gf:=131) (lb:=#[.pointer (some ⟨br,0,none⟩)]) rfl (enters_of Tryz.func131 (by kernel_rfl) rfl) (fun b hb => by have:=zu HS2;omega) (plX 0 24 24 0 24 24 0 24 24 br _ W2 rfl rfl rfl (by omega) (by omega) (by omega) rfl (zu HVR2)) (bfl _ _) (fun _ => rfl)
  (Tq J l W0.heap.size br Bg g gc (br + 1) vd vw vm c) (fun O k X => (∃ j,j < (sqPs c 13824).length ∧ Jx (or2 O W0.heap.size br) j X) ∧ (∀ b,O b → br + 1 ≤ b) ∧ br + 1 ≤ X.heap.size) ?hI ?hIx
  ⟨zu HJ2,zu HVY2,zu HVR2,zu HVB _ (zu HB2),zu HVG _ (zu HB2),zu HVC _ (zu HB2),fun _ h => h.elim,by have:=zu HS2;omega⟩
  (fun O k a' X => ∃ b3,vb X b3 156 [.int .i64 (cx k : Int),.int .i64 (cy k : Int),.int .i64 (cz k : Int)] ∧ ¬ O b3 ∧ br + 1 ≤ b3 ∧ J (or3 O W0.heap.size br b3) (sqPs c k).length X ∧ (∀ b,O b → br + 1 ≤ b) ∧ a' = ({ tmps:=#[.func (.yield l) #[] #[],.pointer (some ⟨Bg,0,none⟩),.pointer (some ⟨W0.heap.size,0,none⟩),.pointer (some ⟨b3,0,none⟩),.agg #[.int .i64 0,.int .i64 0,.int .i64 0,.int .i64 24,.int .i64 24,.int .i64 24],.func (.func 131) #[] #[.pointer (some ⟨br,0,none⟩)],plv (cx k) (cy k) (cz k),undef,undef,undef,undef,undef,undef,undef,undef,undef,undef,undef],defers:=[] } : Act))
  ?hAx ?assign ?body ?done ?stop
 case hI =>
  rintro O O' k A B ⟨hj,hy,hr,hB,hg,hc,hfar,hbig⟩ hgr hO;have hbel : Below (br + 1) A B:=hgr.bel hbig hfar;have hl3:=zu HLT;have hs1:=zu HS1;refine ⟨zu HJ _ _ _ _ _ hj (hgr.mono (fun b hb => .inl hb)) (fun b hb => ?_),hy.below hbel (by omega),hr.below hbel (by omega),hB.below hbel (by omega),hg.below hbel (by omega),hc.below hbel (by omega),fun b hb => (hO b hb).elim (hfar b) (fun h => by omega),Nat.le_trans hbig hgr.size⟩
  rcases hb with h | h
  ·exact (hO b h).elim (fun h => .inl (.inl h)) .inr
  ·exact .inl (.inr h)
 case hIx =>
  rintro O O' k A B ⟨⟨j,hjn,hj⟩,hfar,hbig⟩ hgr hO;refine ⟨⟨j,hjn,zu HJX _ _ _ _ _ hj (hgr.mono (fun b hb => .inl hb)) (fun b hb => ?_)⟩,fun b hb => (hO b hb).elim (hfar b) (fun h => by omega),Nat.le_trans hbig hgr.size⟩
  rcases hb with h | h
  ·exact (hO b h).elim (fun h => .inl (.inl h)) .inr
  ·exact .inl (.inr h)
 case hAx =>
  rintro O k a' A B ⟨b3,h1,h2,h3,h4,h5,h6⟩ hgr;exact ⟨b3,(hgr.block _ h1.lt h2).trans h1,h2,h3,zu HJ _ _ _ _ _ h4 (hgr.mono (fun b hb => .inl (.inl hb))) (fun b hb => .inl hb),h5,h6⟩
 case assign =>
  intro l' O k X K hk hO hi hK;have HK:=hide hK;have HI:=hide hi;clear hK hi;rw [plk_c];unfold plv;gi_wp2;have hA : Below X.heap.size X (X.alloc (.cells #[.int .i64 (cx k : Int),.int .i64 (cy k : Int),.int .i64 (cz k : Int)] 156)):=ba (bfl _ _) _;have h:=zu HI
  exact zu HK _ _ (Kpx.of_bel hA) ⟨zu HJ _ _ _ _ _ h.j (Grw.of_bel hA) (fun b hb => .inl hb),h.vy.bel hA,h.vr.bel hA,h.vB.bel hA,h.vg.bel hA,h.vc.bel hA,h.far,Nat.le_trans h.big hA.size⟩ ⟨X.heap.size,vb_new X 156 _ _ rfl,fun hh => by have:=(hO _ hh).2;omega,h.big,zu HJ _ _ _ _ _ h.j (Grw.of_bel hA) (fun b hb => hb.elim .inl (fun e => .inr (by omega))),h.far,rfl⟩
 case body =>
  rintro l' O k a' X _ hOl hk hO hi ⟨b3,h3,hn3,hl3,hj3,hfar3,rfl⟩;have hk' : k < 13824:=hk;have HI:=hide hi;have H3:=hide h3;have HJ3:=hide hj3;have HK3:=hide hk'
  have HOB : Hid (∀ Y : World,X.heap.size ≤ Y.heap.size → ∀ b,or3 O W0.heap.size br b3 b → W0.heap.size ≤ b ∧ b < Y.heap.size):=hide (fun Y hY b hb => by
   have h1:=(zu HI).big;have h2:=(zu H3).lt;have h4:=zu HS1;have h5:=zu HS2;have h6:=(zu HB2).size
   rcases hb with (h | h | h) | h
   ·have:=hO b h;omega
   ·omega
   ·omega
   ·omega)
  have HA:=hide (at_any g gc vd vw vm c (cx k) (cy k) (cz k) X hi.vg hi.vc);rw [atC_self c hk'] at HA;unfold plv celV at HA;unfold plv;have hfld:=fld141;have p0:=h3.cell (m:=0) rfl;have p1:=h3.cell (m:=1) rfl;have p2:=h3.cell (m:=2) rfl;have q0:=hi.vB.cell (m:=0) rfl;clear hi h3 hj3 hfar3
  cases hf : c.full k with
  | false =>
   rw [hf] at HA;have HL9:=hide (show (sqPs c (k + 1)).length = (sqPs c k).length by rw [sqPs_succ,sqPC_empty hf,List.append_nil]);clear hf;gi_wp2;refine ⟨trivial,rfl,(CallsIn.inRound l' (callsIn_wide.2 (zu HA))).mono ?_⟩;rintro _ X1 ⟨rfl,hb1⟩;have HB1:=hide hb1;clear hb1 p0 p1 p2 q0;gi_wp2;refine ⟨trivial,?_⟩;gi_wp2;have hA:=zu HB1;have h:=zu HI;exact ⟨Kpx.of_bel hA,by rw [zu HL9];exact zu HJ _ _ _ _ _ h.j (Grw.of_bel hA) (fun b hb => .inl hb),h.vy.bel hA,h.vr.bel hA,h.vB.bel hA,h.vg.bel hA,h.vc.bel hA,h.far,Nat.le_trans h.big hA.size⟩
  | true =>
   rw [hf] at HA;have HF:=hide hf;clear hf;gi_wp2;refine ⟨trivial,rfl,(CallsIn.inRound l' (callsIn_wide.2 (zu HA))).mono ?_⟩;rintro _ X1 ⟨rfl,hb1⟩;have HB1:=hide hb1
   have HI1 : Hid (Tq J l W0.heap.size br Bg g gc (br + 1) vd vw vm c O k X1):=hide (by
    have h:=zu HI
    exact ⟨zu HJ _ _ _ _ _ h.j (Grw.of_bel hb1) (fun b hb => .inl hb),h.vy.bel hb1,h.vr.bel hb1,h.vB.bel hb1,h.vg.bel hb1,h.vc.bel hb1,h.far,Nat.le_trans h.big hb1.size⟩)
   have H31:=(zu H3).bel hb1;have p0':=H31.cell (m:=0) rfl;have p1':=H31.cell (m:=1) rfl;have p2':=H31.cell (m:=2) rfl;have q0':=(zu HI1).vB.cell (m:=0) rfl;have y0':=(zu HI1).vy.cell (m:=0) rfl;have HJ31:=hide (zu HJ _ (or3 O W0.heap.size br b3) _ _ _ (zu HJ3) (Grw.of_bel hb1) (fun b hb => .inl hb));have hl3':=zu HLT
   have HSQ:=hide (sqA_in g gc vd vw vm c R hRg hRc l (sqPs c 13824).length W0.heap.size k (sqEnc c) J Jx (or3 O W0.heap.size br b3) X1 rfl (fun j q h => sqEnc_at h) (zu HJ) (zu HJX) (fun O k W1 hk hO hj => zu HY O k W1 hk hO hj) (zu HK3) (zu HF) (fun b hb => zu HOB X1 hb1.size b hb) (by have h1:=(zu HI1).big;have h2:=zu HS1;omega) (zu HJ31) (zu HI1).vg (zu HI1).vc hl3'.2.1 hl3'.2.2);unfold plv at HSQ;clear hb1 p0 p1 p2 q0 H31 hl3';gi_wp2;refine ⟨trivial,rfl,(CallsIn.inRound l' (zu HSQ)).mono ?_⟩;rintro _ X2 (⟨rfl,hj2,hk2⟩ | ⟨rfl,⟨j,hjn,hj2⟩,hk2⟩)
   ·have HJ9:=hide (zu HJ _ (or2 O W0.heap.size br) _ _ _ hj2 ⟨rfl,rfl,rfl,Nat.le_refl _,fun _ _ _ => rfl⟩ (fun b hb => .inl (.inl hb)))
    have HK9:=hide hk2;clear hj2 hk2 p0' p1' p2' q0' y0';gi_wp2;have h:=zu HI1;have hk9:=zu HK9;exact ⟨(Kpx.of_bel (zu HB1)).trans (hk9.sub (fun b hb => hb.elim (fun e => .inr (.inl (.inr (.inr e)))) (fun e => .inr (.inl (.inl e))))),zu HJ9,hk9.vb h.vy (.inr (.inl (.inr (.inl rfl)))),hk9.vb h.vr (.inr (.inl (.inr (.inr rfl)))),hk9.vb h.vB (.inl hRB),hk9.vb h.vg (.inl hRg),hk9.vb h.vc (.inl hRc),h.far,Nat.le_trans h.big hk9.size⟩
   ·have HJ9:=hide (zu HJX _ (or2 O W0.heap.size br) _ _ _ hj2 ⟨rfl,rfl,rfl,Nat.le_refl _,fun _ _ _ => rfl⟩ (fun b hb => .inl (.inl hb)))
    have HK9:=hide hk2;clear hj2 hk2 p0' p1' p2' q0' y0';gi_wp2;refine ⟨fun b hb hbl => (zu HK9 b (.inl (.inl hb)) (Nat.lt_of_lt_of_le hbl (zu HB1).size)).trans ((zu HB1).block b hbl),⟨j,hjn,zu HJ9⟩,(zu HI).far,?_⟩;have h9:=zu HK9 br (.inl (.inr (.inr rfl))) (zu HI1).vr.lt;have h8:=(Array.getElem?_eq_some_iff.1 (h9.trans (zu HI1).vr)).1;omega
 case done =>
  intro O D X hD hi hK hOD;have HI:=hide hi;have HK:=hide hK;clear hi hK;gi_wp2;refine ⟨by simp,.inl ⟨_,_,rfl,run_takeDeferred (zu HK),?_⟩⟩;exact ⟨_,results_none rfl _ _ _,⟨_,rfl⟩,_,.inl (zu HJ _ _ _ _ _ (zu HI).j (Grw.put (.inl hOD) _) (fun b hb => .inl hb))⟩
 case stop =>
  intro O D k X hD hk hi hK hOD;have HI:=hide hi;have HK:=hide hK;clear hi hK;gi_wp2;refine ⟨by simp,.inl ⟨_,_,rfl,run_takeDeferred (zu HK),?_⟩⟩;obtain ⟨⟨j,hjn,hj⟩,_⟩:=zu HI;exact ⟨_,results_none rfl _ _ _,⟨_,rfl⟩,_,.inr ⟨j,hjn,zu HJX _ _ _ _ _ hj (Grw.put (.inl hOD) _) (fun b hb => .inl hb)⟩⟩
end Go.Proofs.YtkiplmabjeadgaaGreat
