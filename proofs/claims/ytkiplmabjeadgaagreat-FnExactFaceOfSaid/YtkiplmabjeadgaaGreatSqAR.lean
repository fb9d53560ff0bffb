/- The squares around a cell are handed out. -/
import Derived.Test.YtkiplmabjeadgaaGreatBpR11R
import Derived.Test.YtkiplmabjeadgaaGreatBqMathR
import Derived.Test.YtkiplmabjeadgaaGreatPlXR
namespace Go.Proofs.YtkiplmabjeadgaaGreat
set_option maxRecDepth 100000
set_option maxHeartbeats 16000000
open Go.ChangeShapes Go.WideShapes Go.ChangeAt Go.RowKit Go.Shelf
attribute [local go_sem] Oper.semAt_some
set_option linter.unusedVariables false
set_option linter.unusedSimpArgs false
def or2 (O : Nat → Prop) (p q : Nat) : Nat → Prop:=fun b => O b ∨ b = p ∨ b = q
def or5 (O : Nat → Prop) (p q x y z : Nat) : Nat → Prop:=fun b => O b ∨ b = p ∨ b = q ∨ b = x ∨ b = y ∨ b = z
theorem sqA_in (g gc : Nat) (vd vw vm : Value) (c : Cs) (R : Nat → Prop) (hRg : R g) (hRc : R gc) (l N T k : Nat) (enc : Nat → Array Value) (J Jx : (Nat → Prop) → Nat → World → Prop) (O : Nat → Prop) (W : World)
  (hN : N = (sqPs c 13824).length) (henc : ∀ j q,(sqPs c 13824)[j]? = some q → enc j = sqe q)
  (hJ : ∀ O O' k A B,J O k A → Grw O A B → (∀ b,O' b → O b ∨ A.heap.size ≤ b) → J O' k B) (hJx : ∀ O O' k A B,Jx O k A → Grw O A B → (∀ b,O' b → O b ∨ A.heap.size ≤ b) → Jx O' k B)
  (hY : ∀ O k W1,k < N → (∀ b,O b → T ≤ b ∧ b < W1.heap.size) → J O k W1 → YieldAt Fence.wide 0 Tryz.prog l (enc k) W1 fun e W' => (e = .returned (.bool true) ∧ J O (k + 1) W' ∧ Kpx R O W1 W') ∨ (e = .returned (.bool false) ∧ Jx O k W' ∧ ∀ b,O b → b < W1.heap.size → W'.heap[b]? = W1.heap[b]?))
  (hk : k < 13824) (hf : c.full k = true) (hO : ∀ b,O b → T ≤ b ∧ b < W.heap.size) (hT : T ≤ W.heap.size) (h0 : J O (sqPs c k).length W)
  (hg : vb W g 84 [.slice (some ⟨gc,0,none⟩) 13824 13824,vd,vw,vm]) (hc : vb W gc 141 (csl c)) (hgT : g < T) (hcT : gc < T) :
  CallsIn Fence.wide 0 Tryz.prog 120 #[.pointer (some ⟨g,0,none⟩),plv (cx k) (cy k) (cz k),.func (.yield l) #[] #[]] W fun e W' =>
   (e = .returned (.bool true) ∧ J O (sqPs c (k + 1)).length W' ∧ Kpx R O W W') ∨ (e = .returned (.bool false) ∧ (∃ j,j < N ∧ Jx O j W') ∧ ∀ b,O b → b < W.heap.size → W'.heap[b]? = W.heap[b]?):=by
 have HY:=hide hY;have HJ:=hide hJ;have HJX:=hide hJx;have HO:=hide hO;have HT:=hide hT;have HE:=hide henc;have HN:=hide hN;have H0:=hide h0;have HF:=hide hf;have HGT:=hide (And.intro hgT hcT);have h1:=cx_lt k;have h2:=cy_lt k;have h3:=cz_lt hk;have HK:=hide hk;have HG:=hide (fun X (h : Below W.heap.size W X) => hg.bel h);have HC:=hide (fun X (h : Below W.heap.size W X) => hc.bel h);have HAT:=hide (fun (x y z : Int) X (hx : vb X g 84 [.slice (some ⟨gc,0,none⟩) 13824 13824,vd,vw,vm]) (hy : vb X gc 141 (csl c)) => at_any g gc vd vw vm c x y z X hx hy)
 have HSE:=hide (atC_self c hk);unfold plv;clear hY hJ hJx hO henc hN h0 hf hg hc hgT hcT hk hT;refine callsIn_of_wp Tryz.func120 rfl trivial ?_ rfl;simp only [Tryz.ntmps120,List.size_toArray,List.length_cons,List.length_nil,Nat.reduceAdd,Nat.reduceSub,Array.replicate_succ,Array.replicate_zero,List.push_toArray,List.append_toArray,List.nil_append,List.cons_append];gi_wp2
 obtain ⟨W1,hW1⟩ : ∃ X,X = W.alloc (.cells #[.int .i64 (cx k : Int),.int .i64 (cy k : Int),.int .i64 (cz k : Int)] 156):=⟨_,rfl⟩
 rw [← hW1];have hb1 : Below W.heap.size W W1:=by rw [hW1];exact ba (bfl _ _) _
 have hp1 : vb W1 W.heap.size 156 [.int .i64 (cx k : Int),.int .i64 (cy k : Int),.int .i64 (cz k : Int)]:=by rw [hW1];exact vb_new W 156 _ _ rfl
 have hs1 : W1.heap.size = W.heap.size + 1:=by rw [hW1];simp
 have HA1:=zu HAT (cx k) (cy k) (cz k) W1 (zu HG _ hb1) (zu HC _ hb1);rw [zu HSE,zu HF] at HA1;unfold celV plv at HA1;clear hW1;refine ⟨trivial,rfl,(callsIn_wide.2 HA1).mono ?_⟩;rintro _ W2 ⟨rfl,hb2⟩;have HB2:=hide (bc hb1 hb2);have HP2:=hide (hp1.bel hb2);have HS2:=hide (show W.heap.size + 1 ≤ W2.heap.size by have:=hb2.size;omega);clear HA1 hb1 hp1 hs1 hb2;gi_wp2
 obtain ⟨W3,hW3⟩ : ∃ X,X = W2.alloc (.cells #[.bool true,.int .i64 (c.by_ k : Int)] 141):=⟨_,rfl⟩
 have hb3 : Below W2.heap.size W2 W3:=by rw [hW3];exact ba (bfl _ _) _
 have HI3:=hide (show vb W3 W2.heap.size 141 [.bool true,.int .i64 (c.by_ k : Int)] by rw [hW3];exact vb_new W2 141 _ _ rfl);rw [← hW3]
 obtain ⟨bp,hbp⟩ : ∃ q,W.heap.size = q:=⟨_,rfl⟩
 obtain ⟨bi,hbi⟩ : ∃ q,W2.heap.size = q:=⟨_,rfl⟩
 have HB3:=hide (bc (zu HB2) hb3);have HP3:=hide ((zu HP2).bel hb3);have HKP:=hide (Kpx.of_bel (R:=R) (O:=O) (zu HB3));have HJ3:=hide (zu HJ O (or2 O W.heap.size W2.heap.size) _ _ _ (zu H0) (Grw.of_bel (zu HB3)) (fun b hb => hb.elim .inl (fun h => .inr (by rcases h with rfl | rfl;exact Nat.le_refl _;have:=zu HS2;omega))));have HS3:=hide (show W2.heap.size + 1 ≤ W3.heap.size by rw [hW3];simp);have HG3:=hide (zu HG _ (zu HB3));have HC3:=hide (zu HC _ (zu HB3));rw [hbp] at HP3 HJ3 HS2;rw [hbi] at HI3 HJ3 HS3 HS2;rw [hbp,hbi];have HBP:=hide hbp
 clear hW3 hb3 hbp hbi HB2 HP2 HG HC H0;gi_wp2
 gi_loopw [8] (fun z X => ∃ s : Nat,z = .int .i64 ((s : Int) + 1) ∧ s ≤ 6 ∧ J (or2 O bp bi) ((sqPs c k).length + (sqPC c k s).length) X ∧ vb X bp 156 [.int .i64 (cx k : Int),.int .i64 (cy k : Int),.int .i64 (cz k : Int)] ∧ vb X bi 141 [.bool true,.int .i64 (c.by_ k : Int)] ∧ vb X g 84 [.slice (some ⟨gc,0,none⟩) 13824 13824,vd,vw,vm] ∧ vb X gc 141 (csl c) ∧ Kpx R O W X ∧ bi + 1 ≤ X.heap.size) (fun z _ => 7 - (intOf z).toNat)
 case atStart => exact ⟨0,rfl,Nat.zero_le _,by rw [show (sqPC c k 0).length = 0 by unfold sqPC;split <;> rfl,Nat.add_zero];exact zu HJ3,zu HP3,zu HI3,zu HG3,zu HC3,zu HKP,zu HS3⟩
 case round =>
  clear HJ3 HP3 HI3 HG3 HC3 HKP HS3;obtain ⟨s,rfl,hs6,hj,hp,hi,hg,hc,hkp,hsz⟩:=hrel;have HJ4:=hide hj;have HP4:=hide hp;have HI4:=hide hi;have HG4:=hide hg;have HC4:=hide hc;have HKP4:=hide hkp;have HS4:=hide hsz;clear hj hi hg hc hkp hsz
  by_cases h : s < 6
  ·have sz : decide ((s : Int) + 1 ≤ 6) = true:=dt (by omega)
   have sz2 : (s : Int) + 1 ≤ 6:=by omega
   have ws : IntKind.i64.wrap ((s : Int) + 1 + 1) = ((s + 1 : Nat) : Int) + 1:=(wrap_i (by omega) (by omega)).trans (by simp);have HTW:=hide (fun X => toward_any (s + 1) X (by omega))
   have hst : (-1 ≤ (stp (s + 1)).1 ∧ (stp (s + 1)).1 ≤ 1) ∧ (-1 ≤ (stp (s + 1)).2.1 ∧ (stp (s + 1)).2.1 ≤ 1) ∧ (-1 ≤ (stp (s + 1)).2.2 ∧ (stp (s + 1)).2.2 ≤ 1):=by
    have : s = 0 ∨ s = 1 ∨ s = 2 ∨ s = 3 ∨ s = 4 ∨ s = 5:=by omega
    rcases this with rfl | rfl | rfl | rfl | rfl | rfl <;> decide
   have HPL:=hide (fun X => plus_any (cx k) (cy k) (cz k) (stp (s + 1)).1 (stp (s + 1)).2.1 (stp (s + 1)).2.2 X (by omega));have HAB:=hide (fun X hx hy => zu HAT ((cx k : Int) + (stp (s + 1)).1) ((cy k : Int) + (stp (s + 1)).2.1) ((cz k : Int) + (stp (s + 1)).2.2) X hx hy);rw [at_bes c (zu HK) (show 1 ≤ s + 1 ∧ s + 1 ≤ 6 by omega)] at HAB;have HX1:=hide (fun X => placeBox_any (cx k) (cy k) (cz k) X (by omega));have HX2:=hide (fun X => placeBox_any ((cx k : Int) + (stp (s + 1)).1) ((cy k : Int) + (stp (s + 1)).2.1) ((cz k : Int) + (stp (s + 1)).2.2) X (by omega))
   have HX3:=hide (fun X => common_any ⟨cx k,cy k,cz k,(cx k : Int) + 1,(cy k : Int) + 1,(cz k : Int) + 1⟩ ⟨(cx k : Int) + (stp (s + 1)).1,(cy k : Int) + (stp (s + 1)).2.1,(cz k : Int) + (stp (s + 1)).2.2,(cx k : Int) + (stp (s + 1)).1 + 1,(cy k : Int) + (stp (s + 1)).2.1 + 1,(cz k : Int) + (stp (s + 1)).2.2 + 1⟩ X);rw [cmn_flt k (s + 1) (by omega)] at HX3;have HQP:=hide (sqP_bes c k (s + 1));have HSU:=hide (sqPC_succ (zu HF) s)
   obtain ⟨⟨o1,o2⟩,hob⟩ : ∃ q,bes c k (s + 1) = q:=⟨_,rfl⟩
   rw [hob] at HAB HQP
   obtain ⟨⟨f0,f1,f2,f3,f4,f5⟩,hfl⟩ : ∃ q,flt k (s + 1) = q:=⟨_,rfl⟩
   rw [hfl] at HX3 HQP;unfold plv at HTW HPL HAB HX1 HX2;unfold bxv at HX1 HX2 HX3;unfold celV at HAB;generalize (stp (s + 1)).1 = d1 at *;generalize (stp (s + 1)).2.1 = d2 at *;generalize (stp (s + 1)).2.2 = d3 at *;clear hst hob hfl;gi_wp2;have e1 : ((s : Int) + 1) = ((s + 1 : Nat) : Int):=by simp
   rw [e1];refine wpIn_mono (wpIn_wide.2 (sa5 (hide (hp.cell (m:=0) rfl)) (hide (hp.cell (m:=1) rfl)) (hide (hp.cell (m:=2) rfl)) (hide fun X _ => zu HTW X) (hide fun X _ => zu HPL X) ?q)) (Only.to (fun _ _ h => h))
   case q =>
    intro n4 X1 hb1 hv1 hn1;have HP5:=hide ((zu HP4).bel hb1);have HI5:=hide ((zu HI4).bel hb1);have HG5:=hide ((zu HG4).bel hb1);have HC5:=hide ((zu HC4).bel hb1);have HV5:=hide hv1;have HB5:=hide hb1;have HN5:=hide hn1;have HA5:=zu HAB X1 (zu HG5) (zu HC5);have v0:=hv1.cell (m:=0) rfl;have v1:=hv1.cell (m:=1) rfl;have v2:=hv1.cell (m:=2) rfl;clear hb1 hv1 hn1 hp e1;gi_wp2;refine ⟨trivial,rfl,(callsIn_wide.2 HA5).mono ?_⟩;rintro _ X2 ⟨rfl,hb2⟩;have HB6:=hide (bc (zu HB5) hb2);have HV6:=hide ((zu HV5).bel hb2);have HG6:=hide ((zu HG5).bel hb2)
    have HC6:=hide ((zu HC5).bel hb2);have HP6:=hide ((zu HP5).bel hb2);have HI6:=hide ((zu HI5).bel hb2);clear HA5 v0 v1 v2 hb2 HV5 HG5 HC5 HP5 HI5 HB5
    cases o1 with
    | true =>
     have i1:=(zu HI6).cell (m:=1) rfl;have hil:=(zu HI6).lt;have HSU3 : Hid (sqPC c k (s + 1) = sqPC c k s):=hide (by rw [zu HSU,zu HQP,if_pos rfl];simp);gi_wp2;have hb7 : Below X2.heap.size X2 (X2.alloc (.cells #[.bool true,.int .i64 (o2 : Int)] 141)):=ba (bfl _ _) _;have hbw:=bc (zu HB6) hb7;have HJA:=hide (zu HJ (or2 O bp bi) (or2 O bp bi) _ _ _ (zu HJ4) (Grw.of_bel hbw) (fun b hb => .inl hb));go_roundw
     case rel => exact ⟨s + 1,by simp,h,by rw [zu HSU3];exact zu HJA,(zu HP6).bel hb7,(zu HI6).bel hb7,(zu HG6).bel hb7,(zu HC6).bel hb7,(zu HKP4).trans (Kpx.of_bel hbw),Nat.le_trans (zu HS4) hbw.size⟩
     case measure => simp only [intOf];omega
    | false =>
     have i1:=(zu HI6).cell (m:=1) rfl;have hil:=(zu HI6).lt
     by_cases hby : c.by_ k < o2
     ·have tb : decide ((c.by_ k : Int) < (o2 : Int)) = true:=dt (by omega)
      gi_wp2
      obtain ⟨X4,hX4⟩ : ∃ X,X = ((X2.alloc (.cells #[.bool false,.int .i64 (o2 : Int)] 141)).alloc (.cells #[.int .i64 (c.by_ k : Int),.int .i64 ((s : Int) + 1)] 147)):=⟨_,rfl⟩
      have hb4 : Below X2.heap.size X2 X4:=by rw [hX4];exact ba (ba (bfl _ _) _) _
      have HW4:=hide (show vb X4 (X2.heap.size + 1) 147 [.int .i64 (c.by_ k : Int),.int .i64 ((s : Int) + 1)] by rw [hX4];exact vb_new _ 147 _ _ (by simp));have HOB4:=hide (show vb X4 X2.heap.size 141 [.bool false,.int .i64 (o2 : Int)] by rw [hX4];exact (vb_new X2 141 _ _ rfl).bel (ba (bfl _ _) _));have HBX:=hide hb4;have HOPP:=hide (fun X => oppP_any (s + 1) X (by omega));rw [← hX4];have e2 : ((s : Int) + 1) = ((s + 1 : Nat) : Int):=by simp
      rw [e2];clear hX4 hb4 e2;refine wpIn_mono (wpIn_wide.2 (sa10 (os:=opp (s + 1)) (hide ((zu HOB4).cell (m:=1) rfl)) (zu HW4).lt (hide ((zu HW4).cell (m:=0) rfl)) (hide ((zu HW4).cell (m:=1) rfl)) (hide (zu HW4).frozen) (hide fun X _ => zu HOPP X) ?q10)) (Only.to (fun _ _ h => h))
      case q10 =>
       intro X5 X6 hX6 hb5;have HW6:=hide (show vb X6 (X2.heap.size + 1) 147 [.int .i64 (o2 : Int),.int .i64 ((opp (s + 1) : Nat) : Int)] by rw [hX6];exact (((zu HW4).bel hb5).set 0 _).set 1 _);have HBY:=hide (show Below X2.heap.size X2 X6 by rw [hX6];exact ((bc (zu HBX) hb5).setCell (show X2.heap.size ≤ (⟨X2.heap.size + 1,0,none⟩ : Addr).block from Nat.le_succ _) _).setCell (show X2.heap.size ≤ (⟨X2.heap.size + 1,0 + 1,none⟩ : Addr).block from Nat.le_succ _) _);clear hX6 hb5;gi_wp2;have HP9:=hide ((zu HP6).bel (zu HBY));have HQ9:=hide ((zu HV6).bel (zu HBY))
       have HI9:=hide ((zu HI6).bel (zu HBY));have HG9:=hide ((zu HG6).bel (zu HBY));have HC9:=hide ((zu HC6).bel (zu HBY));have HSQ : Hid (sqP c k (s + 1) = some ⟨o2,opp (s + 1),⟨f0,f1,f2,f3,f4,f5⟩⟩):=hide (by rw [zu HQP,if_neg (by simp),if_pos hby]);have HAT9:=hide (sqPs_at (zu HK) (zu HF) h (zu HSQ));have HEN:=hide (zu HE _ _ (zu HAT9));unfold sqe bxv at HEN;simp only at HEN
       obtain ⟨m,hm⟩ : ∃ q,(sqPs c k).length + (sqPC c k s).length = q:=⟨_,rfl⟩
       rw [hm] at HEN HAT9;have HMN:=hide (show m < N by rw [zu HN];exact (List.getElem?_eq_some_iff.1 (zu HAT9)).1);have HBW9:=hide (bc (zu HB6) (zu HBY));have hbs:=(zu HBW9).size;have hs4:=zu HS4;have hs2:=zu HS2
       have HO9:=hide (show ∀ X : World,X6.heap.size ≤ X.heap.size → ∀ b,or5 O bp bi n4 X2.heap.size (X2.heap.size + 1) b → T ≤ b ∧ b < X.heap.size from fun X hX b hb => by
        have hT:=zu HT;have hbp:=zu HBP;have hn4:=zu HN5;have hv6:=(zu HV6).lt;have hb6:=(zu HB6).size;have hw9:=(zu HW6).lt;have hkp:=(zu HKP4).size
        rcases hb with h9 | rfl | rfl | rfl | rfl | rfl
        ·have:=zu HO b h9;omega
        ·omega
        ·omega
        ·omega
        ·omega
        ·omega)
       have HJ9:=hide (zu HJ (or2 O bp bi) (or5 O bp bi n4 X2.heap.size (X2.heap.size + 1)) _ _ _ (zu HJ4) (Grw.of_bel (zu HBW9)) (fun b hb => by
        have hn4:=zu HN5;have hb6:=(zu HB6).size
        rcases hb with h9 | rfl | rfl | rfl | rfl | rfl
        ·exact .inl (.inl h9)
        ·exact .inl (.inr (.inl rfl))
        ·exact .inl (.inr (.inr rfl))
        ·exact .inr (by omega)
        ·exact .inr (by omega)
        ·exact .inr (by omega)))
       rw [hm] at HJ9;clear hbs hs4 hs2 i1 hil
       refine wpIn_mono (sa11 (l:=l) (nb:=o2) (sd:=opp (s + 1)) (Pst_:=fun r W' => (r = true ∧ J (or5 O bp bi n4 X2.heap.size (X2.heap.size + 1)) (m + 1) W' ∧ Kpx R (or5 O bp bi n4 X2.heap.size (X2.heap.size + 1)) X6 W') ∨ (r = false ∧ Jx (or5 O bp bi n4 X2.heap.size (X2.heap.size + 1)) m W' ∧ ∀ b,or5 O bp bi n4 X2.heap.size (X2.heap.size + 1) b → b < X6.heap.size → W'.heap[b]? = X6.heap[b]?)) (hide ((zu HW6).cell (m:=0) rfl)) (hide ((zu HW6).cell (m:=1) rfl)) (hide ((zu HP9).cell (m:=0) rfl)) (hide ((zu HP9).cell (m:=1) rfl)) (hide ((zu HP9).cell (m:=2) rfl)) (hide ((zu HQ9).cell (m:=0) rfl)) (hide ((zu HQ9).cell (m:=1) rfl)) (hide ((zu HQ9).cell (m:=2) rfl)) (hide fun X _ => zu HX1 X) (hide fun X _ => zu HX2 X) (hide fun X _ => zu HX3 X) ?yld ?q2) (Only.to (fun _ _ h => h))
       case yld =>
        refine hide fun X hX => ?_
        have hy:=zu HY (or5 O bp bi n4 X2.heap.size (X2.heap.size + 1)) m X (zu HMN) (fun b hb => zu HO9 X hX.size b hb) (zu HJ _ (or5 O bp bi n4 X2.heap.size (X2.heap.size + 1)) _ _ _ (zu HJ9) (Grw.of_bel hX) (fun b hb => .inl hb));rw [zu HEN] at hy;obtain ⟨fn,tmps,assign,body,hyy,hR⟩:=hy;refine ⟨fn,tmps,assign,body,hyy,hR.mono ?_⟩;rintro e W' (⟨rfl,hj,hk⟩ | ⟨rfl,hj,hk⟩)
        ·exact ⟨true,rfl,.inl ⟨rfl,hj,(Kpx.of_bel hX).trans hk⟩⟩
        ·exact ⟨false,rfl,.inr ⟨rfl,hj,fun b hb hbl => (hk b hb (Nat.lt_of_lt_of_le hbl hX.size)).trans (hX.block b hbl)⟩⟩
       case q2 =>
        rintro r W9 (⟨rfl,hj,hk⟩ | ⟨rfl,hj,hk⟩)
        ·have HSU2 : Hid (sqPC c k (s + 1) = sqPC c k s ++ [⟨o2,opp (s + 1),⟨f0,f1,f2,f3,f4,f5⟩⟩]):=hide (by rw [zu HSU,zu HSQ];rfl)
         have HJA:=hide (zu HJ _ (or2 O bp bi) _ _ _ hj ⟨rfl,rfl,rfl,Nat.le_refl _,fun _ _ _ => rfl⟩ (fun b hb => .inl (by rcases hb with h9 | rfl | rfl;exact .inl h9;exact .inr (.inl rfl);exact .inr (.inr (.inl rfl)))));have HPA:=hide (hk.vb (zu HP9) (.inr (.inr (.inl rfl))));have HIA:=hide (hk.vb (zu HI9) (.inr (.inr (.inr (.inl rfl)))));have HGA:=hide (hk.vb (zu HG9) (.inl hRg));have HCA:=hide (hk.vb (zu HC9) (.inl hRc));have HKA:=hide (((zu HKP4).trans (Kpx.of_bel (zu HBW9))).trans (hk.sub (fun b hb => hb.elim .inl (fun h9 => .inr (.inl h9)))))
         have HSA:=hide (Nat.le_trans (zu HS4) (Nat.le_trans (zu HBW9).size hk.size));have HM:=hide hm;clear hj hk hm;gi_wp2;go_roundw
         case rel => exact ⟨s + 1,by simp,h,by rw [zu HSU2,List.length_append,List.length_singleton,← Nat.add_assoc,zu HM];exact zu HJA,zu HPA,zu HIA,zu HGA,zu HCA,zu HKA,zu HSA⟩
         case measure => simp only [intOf];omega
        ·have HJB:=hide (zu HJX _ O _ _ _ hj ⟨rfl,rfl,rfl,Nat.le_refl _,fun _ _ _ => rfl⟩ (fun b hb => .inl (.inl hb)))
         have HKB:=hide (fun b (hb : O b) (hbl : b < W.heap.size) => (hk b (.inl hb) (by have:=(zu HKP4).size;have:=(zu HBW9).size;omega)).trans (((zu HBW9).block b (by have:=(zu HKP4).size;omega)).trans ((zu HKP4).keep b (.inr hb) hbl)));clear hj hk hm;gi_wp2;refine bodyPost_ret (v:=.bool false) (by simp [results,Tryz.results120,go_sem];done) rfl ?_;exact .inr ⟨rfl,⟨m,zu HMN,zu HJB⟩,zu HKB⟩
     ·have tb : decide ((c.by_ k : Int) < (o2 : Int)) = false:=df (by omega)
      gi_wp2
      obtain ⟨X4,hX4⟩ : ∃ X,X = ((X2.alloc (.cells #[.bool false,.int .i64 (o2 : Int)] 141)).alloc (.cells #[.int .i64 (c.by_ k : Int),.int .i64 ((s : Int) + 1)] 147)):=⟨_,rfl⟩
      have hb4 : Below X2.heap.size X2 X4:=by rw [hX4];exact ba (ba (bfl _ _) _) _
      have HW4:=hide (show vb X4 (X2.heap.size + 1) 147 [.int .i64 (c.by_ k : Int),.int .i64 ((s : Int) + 1)] by rw [hX4];exact vb_new _ 147 _ _ (by simp));rw [show ((s : Int) + 1) = ((s + 1 : Nat) : Int) by simp] at HW4;have HBX:=hide hb4;rw [← hX4];clear hX4 hb4;have HP9:=hide ((zu HP6).bel (zu HBX));have HQ9:=hide ((zu HV6).bel (zu HBX));have HI9:=hide ((zu HI6).bel (zu HBX));have HG9:=hide ((zu HG6).bel (zu HBX));have HC9:=hide ((zu HC6).bel (zu HBX))
      have HSQ : Hid (sqP c k (s + 1) = some ⟨c.by_ k,s + 1,⟨f0,f1,f2,f3,f4,f5⟩⟩):=hide (by rw [zu HQP,if_neg (by simp),if_neg hby]);have HAT9:=hide (sqPs_at (zu HK) (zu HF) h (zu HSQ));have HEN:=hide (zu HE _ _ (zu HAT9));unfold sqe bxv at HEN;simp only at HEN
      obtain ⟨m,hm⟩ : ∃ q,(sqPs c k).length + (sqPC c k s).length = q:=⟨_,rfl⟩
      rw [hm] at HEN HAT9;have HMN:=hide (show m < N by rw [zu HN];exact (List.getElem?_eq_some_iff.1 (zu HAT9)).1);have HBW9:=hide (bc (zu HB6) (zu HBX));have hbs:=(zu HBW9).size;have hs4:=zu HS4;have hs2:=zu HS2
      have HO9:=hide (show ∀ X : World,X4.heap.size ≤ X.heap.size → ∀ b,or5 O bp bi n4 X2.heap.size (X2.heap.size + 1) b → T ≤ b ∧ b < X.heap.size from fun X hX b hb => by
       have hT:=zu HT;have hbp:=zu HBP;have hn4:=zu HN5;have hv6:=(zu HV6).lt;have hb6:=(zu HB6).size;have hw9:=(zu HW4).lt;have hkp:=(zu HKP4).size
       rcases hb with h9 | rfl | rfl | rfl | rfl | rfl
       ·have:=zu HO b h9;omega
       ·omega
       ·omega
       ·omega
       ·omega
       ·omega)
      have HJ9:=hide (zu HJ (or2 O bp bi) (or5 O bp bi n4 X2.heap.size (X2.heap.size + 1)) _ _ _ (zu HJ4) (Grw.of_bel (zu HBW9)) (fun b hb => by
       have hn4:=zu HN5;have hb6:=(zu HB6).size
       rcases hb with h9 | rfl | rfl | rfl | rfl | rfl
       ·exact .inl (.inl h9)
       ·exact .inl (.inr (.inl rfl))
       ·exact .inl (.inr (.inr rfl))
       ·exact .inr (by omega)
       ·exact .inr (by omega)
       ·exact .inr (by omega)))
      rw [hm] at HJ9;clear hbs hs4 hs2 i1 hil
      refine wpIn_mono (sa11 (l:=l) (nb:=c.by_ k) (sd:=s + 1) (Pst_:=fun r W' => (r = true ∧ J (or5 O bp bi n4 X2.heap.size (X2.heap.size + 1)) (m + 1) W' ∧ Kpx R (or5 O bp bi n4 X2.heap.size (X2.heap.size + 1)) X4 W') ∨ (r = false ∧ Jx (or5 O bp bi n4 X2.heap.size (X2.heap.size + 1)) m W' ∧ ∀ b,or5 O bp bi n4 X2.heap.size (X2.heap.size + 1) b → b < X4.heap.size → W'.heap[b]? = X4.heap[b]?)) (hide ((zu HW4).cell (m:=0) rfl)) (hide ((zu HW4).cell (m:=1) rfl)) (hide ((zu HP9).cell (m:=0) rfl)) (hide ((zu HP9).cell (m:=1) rfl)) (hide ((zu HP9).cell (m:=2) rfl)) (hide ((zu HQ9).cell (m:=0) rfl)) (hide ((zu HQ9).cell (m:=1) rfl)) (hide ((zu HQ9).cell (m:=2) rfl)) (hide fun X _ => zu HX1 X) (hide fun X _ => zu HX2 X) (hide fun X _ => zu HX3 X) ?yld ?q2) (Only.to (fun _ _ h => h))
      case yld =>
       refine hide fun X hX => ?_
       have hy:=zu HY (or5 O bp bi n4 X2.heap.size (X2.heap.size + 1)) m X (zu HMN) (fun b hb => zu HO9 X hX.size b hb) (zu HJ _ (or5 O bp bi n4 X2.heap.size (X2.heap.size + 1)) _ _ _ (zu HJ9) (Grw.of_bel hX) (fun b hb => .inl hb));rw [zu HEN] at hy;obtain ⟨fn,tmps,assign,body,hyy,hR⟩:=hy;refine ⟨fn,tmps,assign,body,hyy,hR.mono ?_⟩;rintro e W' (⟨rfl,hj,hk⟩ | ⟨rfl,hj,hk⟩)
       ·exact ⟨true,rfl,.inl ⟨rfl,hj,(Kpx.of_bel hX).trans hk⟩⟩
       ·exact ⟨false,rfl,.inr ⟨rfl,hj,fun b hb hbl => (hk b hb (Nat.lt_of_lt_of_le hbl hX.size)).trans (hX.block b hbl)⟩⟩
      case q2 =>
       rintro r W9 (⟨rfl,hj,hk⟩ | ⟨rfl,hj,hk⟩)
       ·have HSU2 : Hid (sqPC c k (s + 1) = sqPC c k s ++ [⟨c.by_ k,s + 1,⟨f0,f1,f2,f3,f4,f5⟩⟩]):=hide (by rw [zu HSU,zu HSQ];rfl)
        have HJA:=hide (zu HJ _ (or2 O bp bi) _ _ _ hj ⟨rfl,rfl,rfl,Nat.le_refl _,fun _ _ _ => rfl⟩ (fun b hb => .inl (by rcases hb with h9 | rfl | rfl;exact .inl h9;exact .inr (.inl rfl);exact .inr (.inr (.inl rfl)))));have HPA:=hide (hk.vb (zu HP9) (.inr (.inr (.inl rfl))));have HIA:=hide (hk.vb (zu HI9) (.inr (.inr (.inr (.inl rfl)))));have HGA:=hide (hk.vb (zu HG9) (.inl hRg));have HCA:=hide (hk.vb (zu HC9) (.inl hRc));have HKA:=hide (((zu HKP4).trans (Kpx.of_bel (zu HBW9))).trans (hk.sub (fun b hb => hb.elim .inl (fun h9 => .inr (.inl h9)))))
        have HSA:=hide (Nat.le_trans (zu HS4) (Nat.le_trans (zu HBW9).size hk.size));have HM:=hide hm;clear hj hk hm;gi_wp2;go_roundw
        case rel => exact ⟨s + 1,by simp,h,by rw [zu HSU2,List.length_append,List.length_singleton,← Nat.add_assoc,zu HM];exact zu HJA,zu HPA,zu HIA,zu HGA,zu HCA,zu HKA,zu HSA⟩
        case measure => simp only [intOf];omega
       ·have HJB:=hide (zu HJX _ O _ _ _ hj ⟨rfl,rfl,rfl,Nat.le_refl _,fun _ _ _ => rfl⟩ (fun b hb => .inl (.inl hb)))
        have HKB:=hide (fun b (hb : O b) (hbl : b < W.heap.size) => (hk b (.inl hb) (by have:=(zu HKP4).size;have:=(zu HBW9).size;omega)).trans (((zu HBW9).block b (by have:=(zu HKP4).size;omega)).trans ((zu HKP4).keep b (.inr hb) hbl)));clear hj hk hm;gi_wp2;refine bodyPost_ret (v:=.bool false) (by simp [results,Tryz.results120,go_sem];done) rfl ?_;exact .inr ⟨rfl,⟨m,zu HMN,zu HJB⟩,zu HKB⟩
  ·obtain rfl : s = 6:=by omega
   have sz : decide (((6 : Nat) : Int) + 1 ≤ 6) = false:=by decide
   have sz2 : ¬ (((6 : Nat) : Int) + 1 ≤ 6):=by decide
   have hjf:=zu HJ _ O _ _ _ (zu HJ4) ⟨rfl,rfl,rfl,Nat.le_refl _,fun _ _ _ => rfl⟩ (fun b hb => .inl (.inl hb));rw [← List.length_append,← sqPs_succ] at hjf;have HJF:=hide hjf;clear hjf;gi_wp2;refine bodyPost_ret (v:=.bool true) (by simp [results,Tryz.results120,go_sem];done) rfl ?_;exact .inl ⟨rfl,zu HJF,zu HKP4⟩
end Go.Proofs.YtkiplmabjeadgaaGreat
