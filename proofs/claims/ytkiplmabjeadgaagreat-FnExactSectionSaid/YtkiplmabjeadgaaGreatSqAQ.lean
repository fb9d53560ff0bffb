/- All squares, as an iterator. -/
import Derived.Test.YtkiplmabjeadgaaGreatBpR11Q
import Derived.Test.YtkiplmabjeadgaaGreatSe15Q
namespace Go.Proofs.YtkiplmabjeadgaaGreat
set_option maxRecDepth 100000
set_option maxHeartbeats 16000000
open Go.ChangeShapes Go.WideShapes Go.ChangeAt Go.RowKit Go.Shelf
attribute [local go_sem] Oper.semAt_some
set_option linter.unusedVariables false
set_option linter.unusedSimpArgs false
def or2 (O : Nat → Prop) (p q : Nat) : Nat → Prop := fun b => O b ∨ b = p ∨ b = q
def or5 (O : Nat → Prop) (p q x y z : Nat) : Nat → Prop := fun b => O b ∨ b = p ∨ b = q ∨ b = x ∨ b = y ∨ b = z
theorem sqA_in (g gc : Nat) (vd vw vm : Value) (c : Cs) (R : Nat → Prop) (hRg : R g) (hRc : R gc) (l N T k : Nat) (enc : Nat → Array Value) (J Jx : (Nat → Prop) → Nat → World → Prop) (O : Nat → Prop) (W : World)
  (hN : N = (sqPs c 13824).length) (henc : ∀ j q, (sqPs c 13824)[j]? = some q → enc j = sqe q)
  (hJ : ∀ O O' k A B, J O k A → Grw O A B → (∀ b, O' b → O b ∨ A.heap.size ≤ b) → J O' k B) (hJx : ∀ O O' k A B, Jx O k A → Grw O A B → (∀ b, O' b → O b ∨ A.heap.size ≤ b) → Jx O' k B)
  (hY : ∀ O k W1, k < N → (∀ b, O b → T ≤ b ∧ b < W1.heap.size) → J O k W1 → YieldAt Fence.wide 0 Tryz.prog l (enc k) W1 fun e W' => (e = .returned (.bool true) ∧ J O (k + 1) W' ∧ Kpx R O W1 W') ∨ (e = .returned (.bool false) ∧ Jx O k W' ∧ ∀ b, O b → b < W1.heap.size → W'.heap[b]? = W1.heap[b]?))
  (hk : k < 13824) (hf : c.full k = true) (hO : ∀ b, O b → T ≤ b ∧ b < W.heap.size) (hT : T ≤ W.heap.size) (h0 : J O (sqPs c k).length W)
  (hg : vb W g 84 [.slice (some ⟨gc, 0, none⟩) 13824 13824, vd, vw, vm]) (hc : vb W gc 141 (csl c)) (hgT : g < T) (hcT : gc < T) :
  CallsIn Fence.wide 0 Tryz.prog 120 #[.pointer (some ⟨g, 0, none⟩), plv (cx k) (cy k) (cz k), .func (.yield l) #[] #[]] W fun e W' =>
   (e = .returned (.bool true) ∧ J O (sqPs c (k + 1)).length W' ∧ Kpx R O W W') ∨ (e = .returned (.bool false) ∧ (∃ j, j < N ∧ Jx O j W') ∧ ∀ b, O b → b < W.heap.size → W'.heap[b]? = W.heap[b]?) := by
 have HY := hide hY;have HJ := hide hJ;have HJX := hide hJx;have HO := hide hO;have HT := hide hT;have HE := hide henc;have HN := hide hN;have H0 := hide h0;have HF := hide hf;have HGT := hide (And.intro hgT hcT);have h1 := cx_lt k;have h2 := cy_lt k;have h3 := cz_lt hk;have HK := hide hk;have HG := hide (fun X (h : Below W.heap.size W X) => hg.bel h);have HC := hide (fun X (h : Below W.heap.size W X) => hc.bel h);have HAT := hide (fun (x y z : Int) X (hx : vb X g 84 [.slice (some ⟨gc, 0, none⟩) 13824 13824, vd, vw, vm]) (hy : vb X gc 141 (csl c)) => at_any g gc vd vw vm c x y z X hx hy)
 have HSE := hide (atC_self c hk);unfold plv;clear hY hJ hJx hO henc hN h0 hf hg hc hgT hcT hk hT;refine callsIn_of_wp Tryz.func120 rfl trivial ?_ rfl;simp only [Tryz.ntmps120, List.size_toArray, List.length_cons, List.length_nil, Nat.reduceAdd, Nat.reduceSub, Array.replicate_succ, Array.replicate_zero, List.push_toArray, List.append_toArray, List.nil_append, List.cons_append];gi_wp2
 obtain ⟨W1, hW1⟩ : ∃ X, X = W.alloc (.cells #[.int .i64 (cx k : Int), .int .i64 (cy k : Int), .int .i64 (cz k : Int)] 156) := ⟨_, rfl⟩
 rw [← hW1];have hb1 : Below W.heap.size W W1 := by rw [hW1]; exact ba (bfl _ _) _
 have hp1 : vb W1 W.heap.size 156 [.int .i64 (cx k : Int), .int .i64 (cy k : Int), .int .i64 (cz k : Int)] := by rw [hW1]; exact vb_new W 156 _ _ rfl
 have hs1 : W1.heap.size = W.heap.size + 1 := by rw [hW1]; simp
 have HA1 := zu HAT (cx k) (cy k) (cz k) W1 (zu HG _ hb1) (zu HC _ hb1);rw [zu HSE, zu HF] at HA1;unfold celV plv at HA1;clear hW1;refine ⟨trivial, rfl, (callsIn_wide.2 HA1).mono ?_⟩;rintro _ W2 ⟨rfl, hb2⟩;have HB2 := hide (bc hb1 hb2);have HP2 := hide (hp1.bel hb2);have HS2 := hide (show W.heap.size + 1 ≤ W2.heap.size by have := hb2.size; omega);clear HA1 hb1 hp1 hs1 hb2;gi_wp2
 obtain ⟨W3, hW3⟩ : ∃ X, X = W2.alloc (.cells #[.bool true, .int .i64 (c.by_ k : Int)] 141) := ⟨_, rfl⟩
 have hb3 : Below W2.heap.size W2 W3 := by rw [hW3]; exact ba (bfl _ _) _
 have HI3 := hide (show vb W3 W2.heap.size 141 [.bool true, .int .i64 (c.by_ k : Int)] by rw [hW3]; exact vb_new W2 141 _ _ rfl);rw [← hW3]
 obtain ⟨bp, hbp⟩ : ∃ q, W.heap.size = q := ⟨_, rfl⟩
 obtain ⟨bi, hbi⟩ : ∃ q, W2.heap.size = q := ⟨_, rfl⟩
 have HB3 := hide (bc (zu HB2) hb3);have HP3 := hide ((zu HP2).bel hb3);have HKP := hide (Kpx.of_bel (R := R) (O := O) (zu HB3));have HJ3 := hide (zu HJ O (or2 O W.heap.size W2.heap.size) _ _ _ (zu H0) (Grw.of_bel (zu HB3)) (fun b hb => hb.elim .inl (fun h => .inr (by rcases h with rfl | rfl; exact Nat.le_refl _; have := zu HS2; omega))));have HS3 := hide (show W2.heap.size + 1 ≤ W3.heap.size by rw [hW3]; simp);have HG3 := hide (zu HG _ (zu HB3));have HC3 := hide (zu HC _ (zu HB3));rw [hbp] at HP3 HJ3 HS2;rw [hbi] at HI3 HJ3 HS3 HS2;rw [hbp, hbi];have HBP := hide hbp
 clear hW3 hb3 hbp hbi HB2 HP2 HG HC H0;gi_wp2
 gi_loopw [8] (fun z X => ∃ s : Nat, z = .int .i64 ((s : Int) + 1) ∧ s ≤ 6 ∧ J (or2 O bp bi) ((sqPs c k).length + (sqPC c k s).length) X ∧ vb X bp 156 [.int .i64 (cx k : Int), .int .i64 (cy k : Int), .int .i64 (cz k : Int)] ∧ vb X bi 141 [.bool true, .int .i64 (c.by_ k : Int)] ∧ vb X g 84 [.slice (some ⟨gc, 0, none⟩) 13824 13824, vd, vw, vm] ∧ vb X gc 141 (csl c) ∧ Kpx R O W X ∧ bi + 1 ≤ X.heap.size) (fun z _ => 7 - (intOf z).toNat)
 case atStart => exact ⟨0, rfl, Nat.zero_le _, by rw [show (sqPC c k 0).length = 0 by unfold sqPC; split <;> rfl, Nat.add_zero]; exact zu HJ3, zu HP3, zu HI3, zu HG3, zu HC3, zu HKP, zu HS3⟩
 case round =>
  clear HJ3 HP3 HI3 HG3 HC3 HKP HS3;obtain ⟨s, rfl, hs6, hj, hp, hi, hg, hc, hkp, hsz⟩ := hrel;have HJ4 := hide hj;have HP4 := hide hp;have HI4 := hide hi;have HG4 := hide hg;have HC4 := hide hc;have HKP4 := hide hkp;have HS4 := hide hsz;clear hj hi hg hc hkp hsz
  by_cases h : s < 6
  ·have sz : decide ((s : Int) + 1 ≤ 6) = true := dt (by omega)
   have sz2 : (s : Int) + 1 ≤ 6 := by omega
   have ws : IntKind.i64.wrap ((s : Int) + 1 + 1) = ((s + 1 : Nat) : Int) + 1 := (wrap_i (by omega) (by omega)).trans (by simp);have HTW := hide (fun X => toward_any (s + 1) X (by omega))
   have hst : (-1 ≤ (stp (s + 1)).1 ∧ (stp (s + 1)).1 ≤ 1) ∧ (-1 ≤ (stp (s + 1)).2.1 ∧ (stp (s + 1)).2.1 ≤ 1) ∧ (-1 ≤ (stp (s + 1)).2.2 ∧ (stp (s + 1)).2.2 ≤ 1) := by
    have : s = 0 ∨ s = 1 ∨ s = 2 ∨ s = 3 ∨ s = 4 ∨ s = 5 := by omega
    rcases this with rfl | rfl | rfl | rfl | rfl | rfl <;> decide
   have HPL := hide (fun X => plus_any (cx k) (cy k) (cz k) (stp (s + 1)).1 (stp (s + 1)).2.1 (stp (s + 1)).2.2 X (by omega));have HAB := hide (fun X hx hy => zu HAT ((cx k : Int) + (stp (s + 1)).1) ((cy k : Int) + (stp (s + 1)).2.1) ((cz k : Int) + (stp (s + 1)).2.2) X hx hy);rw [at_bes c (zu HK) (show 1 ≤ s + 1 ∧ s + 1 ≤ 6 by omega)] at HAB;have HX1 := hide (fun X => placeBox_any (cx k) (cy k) (cz k) X (by omega));have HX2 := hide (fun X => placeBox_any ((cx k : Int) + (stp (s + 1)).1) ((cy k : Int) + (stp (s + 1)).2.1) ((cz k : Int) + (stp (s + 1)).2.2) X (by omega))
   have HX3 := hide (fun X => common_any ⟨cx k, cy k, cz k, (cx k : Int) + 1, (cy k : Int) + 1, (cz k : Int) + 1⟩ ⟨(cx k : Int) + (stp (s + 1)).1, (cy k : Int) + (stp (s + 1)).2.1, (cz k : Int) + (stp (s + 1)).2.2, (cx k : Int) + (stp (s + 1)).1 + 1, (cy k : Int) + (stp (s + 1)).2.1 + 1, (cz k : Int) + (stp (s + 1)).2.2 + 1⟩ X);rw [cmn_flt k (s + 1) (by omega)] at HX3;have HQP := hide (sqP_bes c k (s + 1));have HSU := hide (sqPC_succ (zu HF) s)
   obtain ⟨⟨o1, o2⟩, hob⟩ : ∃ q, bes c k (s + 1) = q := ⟨_, rfl⟩
   rw [hob] at HAB HQP
   obtain ⟨⟨f0, f1, f2, f3, f4, f5⟩, hfl⟩ : ∃ q, flt k (s + 1) = q := ⟨_, rfl⟩
   rw [hfl] at HX3 HQP;unfold plv at HTW HPL HAB HX1 HX2;unfold bxv at HX1 HX2 HX3;unfold celV at HAB;generalize (stp (s + 1)).1 = d1 at *;generalize (stp (s + 1)).2.1 = d2 at *;generalize (stp (s + 1)).2.2 = d3 at *;clear hst hob hfl;gi_wp2;have e1 : ((s : Int) + 1) = ((s + 1 : Nat) : Int) := by simp
   rw [e1];refine wpIn_mono (wpIn_wide.2 (sa5 (hide (hp.cell (m := 0) rfl)) (hide (hp.cell (m := 1) rfl)) (hide (hp.cell (m := 2) rfl)) (hide fun X _ => zu HTW X) (hide fun X _ => zu HPL X) ?q)) (Only.to (fun _ _ h => h))
   case q =>
    intro n4 X1 hb1 hv1 hn1;have HP5 := hide ((zu HP4).bel hb1);have HI5 := hide ((zu HI4).bel hb1);have HG5 := hide ((zu HG4).bel hb1);have HC5 := hide ((zu HC4).bel hb1);have HV5 := hide hv1;have HB5 := hide hb1;have HN5 := hide hn1;have HA5 := zu HAB X1 (zu HG5) (zu HC5);have v0 := hv1.cell (m := 0) rfl;have v1 := hv1.cell (m := 1) rfl;have v2 := hv1.cell (m := 2) rfl;clear hb1 hv1 hn1 hp e1;gi_wp2;refine ⟨trivial, rfl, (callsIn_wide.2 HA5).mono ?_⟩;rintro _ X2 ⟨rfl, hb2⟩;have HB6 := hide (bc (zu HB5) hb2);have HV6 := hide ((zu HV5).bel hb2);have HG6 := hide ((zu HG5).bel hb2)
    have HC6 := hide ((zu HC5).bel hb2);have HP6 := hide ((zu HP5).bel hb2);have HI6 := hide ((zu HI5).bel hb2);clear HA5 v0 v1 v2 hb2 HV5 HG5 HC5 HP5 HI5 HB5
    cases o1 with
    | true =>
     have i1 := (zu HI6).cell (m := 1) rfl;have hil := (zu HI6).lt;have HSU3 : Hid (sqPC c k (s + 1) = sqPC c k s) := hide (by rw [zu HSU, zu HQP, if_pos rfl]; simp);gi_wp2;have hb7 : Below X2.heap.size X2 (X2.alloc (.cells #[.bool true, .int .i64 (o2 : Int)] 141)) := ba (bfl _ _) _;have hbw := bc (zu HB6) hb7;have HJA := hide (zu HJ (or2 O bp bi) (or2 O bp bi) _ _ _ (zu HJ4) (Grw.of_bel hbw) (fun b hb => .inl hb));go_roundw
     case rel => exact ⟨s + 1, by simp, h, by rw [zu HSU3]; exact zu HJA, (zu HP6).bel hb7, (zu HI6).bel hb7, (zu HG6).bel hb7, (zu HC6).bel hb7, (zu HKP4).trans (Kpx.of_bel hbw), Nat.le_trans (zu HS4) hbw.size⟩
     case measure => simp only [intOf]; omega
    | false =>
     have i1 := (zu HI6).cell (m := 1) rfl;have hil := (zu HI6).lt
     by_cases hby : c.by_ k < o2
     ·have tb : decide ((c.by_ k : Int) < (o2 : Int)) = true := dt (by omega)
      gi_wp2
      obtain ⟨X4, hX4⟩ : ∃ X, X = ((X2.alloc (.cells #[.bool false, .int .i64 (o2 : Int)] 141)).alloc (.cells #[.int .i64 (c.by_ k : Int), .int .i64 ((s : Int) + 1)] 147)) := ⟨_, rfl⟩
      have hb4 : Below X2.heap.size X2 X4 := by rw [hX4]; exact ba (ba (bfl _ _) _) _
      have HW4 := hide (show vb X4 (X2.heap.size + 1) 147 [.int .i64 (c.by_ k : Int), .int .i64 ((s : Int) + 1)] by rw [hX4]; exact vb_new _ 147 _ _ (by simp));have HOB4 := hide (show vb X4 X2.heap.size 141 [.bool false, .int .i64 (o2 : Int)] by rw [hX4]; exact (vb_new X2 141 _ _ rfl).bel (ba (bfl _ _) _));have HBX := hide hb4;have HOPP := hide (fun X => oppP_any (s + 1) X (by omega));rw [← hX4];have e2 : ((s : Int) + 1) = ((s + 1 : Nat) : Int) := by simp
      rw [e2];clear hX4 hb4 e2;refine wpIn_mono (wpIn_wide.2 (sa10 (os := opp (s + 1)) (hide ((zu HOB4).cell (m := 1) rfl)) (zu HW4).lt (hide ((zu HW4).cell (m := 0) rfl)) (hide ((zu HW4).cell (m := 1) rfl)) (hide (zu HW4).frozen) (hide fun X _ => zu HOPP X) ?q10)) (Only.to (fun _ _ h => h))
      case q10 =>
       intro X5 X6 hX6 hb5;have HW6 := hide (show vb X6 (X2.heap.size + 1) 147 [.int .i64 (o2 : Int), .int .i64 ((opp (s + 1) : Nat) : Int)] by rw [hX6]; exact (((zu HW4).bel hb5).set 0 _).set 1 _);have HBY := hide (show Below X2.heap.size X2 X6 by rw [hX6]; exact ((bc (zu HBX) hb5).setCell (show X2.heap.size ≤ (⟨X2.heap.size + 1, 0, none⟩ : Addr).block from Nat.le_succ _) _).setCell (show X2.heap.size ≤ (⟨X2.heap.size + 1, 0 + 1, none⟩ : Addr).block from Nat.le_succ _) _);clear hX6 hb5;gi_wp2;have HP9 := hide ((zu HP6).bel (zu HBY));have HQ9 := hide ((zu HV6).bel (zu HBY))
       have HI9 := hide ((zu HI6).bel (zu HBY));have HG9 := hide ((zu HG6).bel (zu HBY));have HC9 := hide ((zu HC6).bel (zu HBY));have HSQ : Hid (sqP c k (s + 1) = some ⟨o2, opp (s + 1), ⟨f0, f1, f2, f3, f4, f5⟩⟩) := hide (by rw [zu HQP, if_neg (by simp), if_pos hby]);have HAT9 := hide (sqPs_at (zu HK) (zu HF) h (zu HSQ));have HEN := hide (zu HE _ _ (zu HAT9));unfold sqe bxv at HEN;simp only at HEN
       obtain ⟨m, hm⟩ : ∃ q, (sqPs c k).length + (sqPC c k s).length = q := ⟨_, rfl⟩
       rw [hm] at HEN HAT9;have HMN := hide (show m < N by rw [zu HN]; exact (List.getElem?_eq_some_iff.1 (zu HAT9)).1);have HBW9 := hide (bc (zu HB6) (zu HBY));have hbs := (zu HBW9).size;have hs4 := zu HS4;have hs2 := zu HS2
       have HO9 := hide (show ∀ X : World, X6.heap.size ≤ X.heap.size → ∀ b, or5 O bp bi n4 X2.heap.size (X2.heap.size + 1) b → T ≤ b ∧ b < X.heap.size from fun X hX b hb => by
        have hT := zu HT;have hbp := zu HBP;have hn4 := zu HN5;have hv6 := (zu HV6).lt;have hb6 := (zu HB6).size;have hw9 := (zu HW6).lt;have hkp := (zu HKP4).size
        rcases hb with h9 | rfl | rfl | rfl | rfl | rfl
        ·have := zu HO b h9; omega
        ·omega
        ·omega
        ·omega
        ·omega
        ·omega)
       have HJ9 := hide (zu HJ (or2 O bp bi) (or5 O bp bi n4 X2.heap.size (X2.heap.size + 1)) _ _ _ (zu HJ4) (Grw.of_bel (zu HBW9)) (fun b hb => by
        have hn4 := zu HN5;have hb6 := (zu HB6).size
        rcases hb with h9 | rfl | rfl | rfl | rfl | rfl
        ·exact .inl (.inl h9)
        ·exact .inl (.inr (.inl rfl))
        ·exact .inl (.inr (.inr rfl))
        ·exact .inr (by omega)
        ·exact .inr (by omega)
        ·exact .inr (by omega)))
       rw [hm] at HJ9;clear hbs hs4 hs2 i1 hil
       refine wpIn_mono (sa11 (l := l) (nb := o2) (sd := opp (s + 1)) (Pst_ := fun r W' => (r = true ∧ J (or5 O bp bi n4 X2.heap.size (X2.heap.size + 1)) (m + 1) W' ∧ Kpx R (or5 O bp bi n4 X2.heap.size (X2.heap.size + 1)) X6 W') ∨ (r = false ∧ Jx (or5 O bp bi n4 X2.heap.size (X2.heap.size + 1)) m W' ∧ ∀ b, or5 O bp bi n4 X2.heap.size (X2.heap.size + 1) b → b < X6.heap.size → W'.heap[b]? = X6.heap[b]?)) (hide ((zu HW6).cell (m := 0) rfl)) (hide ((zu HW6).cell (m := 1) rfl)) (hide ((zu HP9).cell (m := 0) rfl)) (hide ((zu HP9).cell (m := 1) rfl)) (hide ((zu HP9).cell (m := 2) rfl)) (hide ((zu HQ9).cell (m := 0) rfl)) (hide ((zu HQ9).cell (m := 1) rfl)) (hide ((zu HQ9).cell (m := 2) rfl)) (hide fun X _ => zu HX1 X) (hide fun X _ => zu HX2 X) (hide fun X _ => zu HX3 X) ?yld ?q2) (Only.to (fun _ _ h => h))
       case yld =>
        refine hide fun X hX => ?_
        have hy := zu HY (or5 O bp bi n4 X2.heap.size (X2.heap.size + 1)) m X (zu HMN) (fun b hb => zu HO9 X hX.size b hb) (zu HJ _ (or5 O bp bi n4 X2.heap.size (X2.heap.size + 1)) _ _ _ (zu HJ9) (Grw.of_bel hX) (fun b hb => .inl hb));rw [zu HEN] at hy;obtain ⟨fn, tmps, assign, body, hyy, hR⟩ := hy;refine ⟨fn, tmps, assign, body, hyy, hR.mono ?_⟩;rintro e W' (⟨rfl, hj, hk⟩ | ⟨rfl, hj, hk⟩)
        ·exact ⟨true, rfl, .inl ⟨rfl, hj, (Kpx.of_bel hX).trans hk⟩⟩
        ·exact ⟨false, rfl, .inr ⟨rfl, hj, fun b hb hbl => (hk b hb (Nat.lt_of_lt_of_le hbl hX.size)).trans (hX.block b hbl)⟩⟩
       case q2 =>
        rintro r W9 (⟨rfl, hj, hk⟩ | ⟨rfl, hj, hk⟩)
        ·have HSU2 : Hid (sqPC c k (s + 1) = sqPC c k s ++ [⟨o2, opp (s + 1), ⟨f0, f1, f2, f3, f4, f5⟩⟩]) := hide (by rw [zu HSU, zu HSQ]; rfl)
         have HJA := hide (zu HJ _ (or2 O bp bi) _ _ _ hj ⟨rfl, rfl, rfl, Nat.le_refl _, fun _ _ _ => rfl⟩ (fun b hb => .inl (by rcases hb with h9 | rfl | rfl; exact .inl h9; exact .inr (.inl rfl); exact .inr (.inr (.inl rfl)))));have HPA := hide (hk.vb (zu HP9) (.inr (.inr (.inl rfl))));have HIA := hide (hk.vb (zu HI9) (.inr (.inr (.inr (.inl rfl)))));have HGA := hide (hk.vb (zu HG9) (.inl hRg));have HCA := hide (hk.vb (zu HC9) (.inl hRc));have HKA := hide (((zu HKP4).trans (Kpx.of_bel (zu HBW9))).trans (hk.sub (fun b hb => hb.elim .inl (fun h9 => .inr (.inl h9)))))
         have HSA := hide (Nat.le_trans (zu HS4) (Nat.le_trans (zu HBW9).size hk.size));have HM := hide hm;clear hj hk hm;gi_wp2;go_roundw
         case rel => exact ⟨s + 1, by simp, h, by rw [zu HSU2, List.length_append, List.length_singleton, ← Nat.add_assoc, zu HM]; exact zu HJA, zu HPA, zu HIA, zu HGA, zu HCA, zu HKA, zu HSA⟩
         case measure => simp only [intOf]; omega
        ·have HJB := hide (zu HJX _ O _ _ _ hj ⟨rfl, rfl, rfl, Nat.le_refl _, fun _ _ _ => rfl⟩ (fun b hb => .inl (.inl hb)))
         have HKB := hide (fun b (hb : O b) (hbl : b < W.heap.size) => (hk b (.inl hb) (by have := (zu HKP4).size; have := (zu HBW9).size; omega)).trans (((zu HBW9).block b (by have := (zu HKP4).size; omega)).trans ((zu HKP4).keep b (.inr hb) hbl)));clear hj hk hm;gi_wp2;refine bodyPost_ret (v := .bool false) (by simp [results, Tryz.results120, go_sem]; done) rfl ?_;exact .inr ⟨rfl, ⟨m, zu HMN, zu HJB⟩, zu HKB⟩
     ·have tb : decide ((c.by_ k : Int) < (o2 : Int)) = false := df (by omega)
      gi_wp2
      obtain ⟨X4, hX4⟩ : ∃ X, X = ((X2.alloc (.cells #[.bool false, .int .i64 (o2 : Int)] 141)).alloc (.cells #[.int .i64 (c.by_ k : Int), .int .i64 ((s : Int) + 1)] 147)) := ⟨_, rfl⟩
      have hb4 : Below X2.heap.size X2 X4 := by rw [hX4]; exact ba (ba (bfl _ _) _) _
      have HW4 := hide (show vb X4 (X2.heap.size + 1) 147 [.int .i64 (c.by_ k : Int), .int .i64 ((s : Int) + 1)] by rw [hX4]; exact vb_new _ 147 _ _ (by simp));rw [show ((s : Int) + 1) = ((s + 1 : Nat) : Int) by simp] at HW4;have HBX := hide hb4;rw [← hX4];clear hX4 hb4;have HP9 := hide ((zu HP6).bel (zu HBX));have HQ9 := hide ((zu HV6).bel (zu HBX));have HI9 := hide ((zu HI6).bel (zu HBX));have HG9 := hide ((zu HG6).bel (zu HBX));have HC9 := hide ((zu HC6).bel (zu HBX))
      have HSQ : Hid (sqP c k (s + 1) = some ⟨c.by_ k, s + 1, ⟨f0, f1, f2, f3, f4, f5⟩⟩) := hide (by rw [zu HQP, if_neg (by simp), if_neg hby]);have HAT9 := hide (sqPs_at (zu HK) (zu HF) h (zu HSQ));have HEN := hide (zu HE _ _ (zu HAT9));unfold sqe bxv at HEN;simp only at HEN
      obtain ⟨m, hm⟩ : ∃ q, (sqPs c k).length + (sqPC c k s).length = q := ⟨_, rfl⟩
      rw [hm] at HEN HAT9;have HMN := hide (show m < N by rw [zu HN]; exact (List.getElem?_eq_some_iff.1 (zu HAT9)).1);have HBW9 := hide (bc (zu HB6) (zu HBX));have hbs := (zu HBW9).size;have hs4 := zu HS4;have hs2 := zu HS2
      have HO9 := hide (show ∀ X : World, X4.heap.size ≤ X.heap.size → ∀ b, or5 O bp bi n4 X2.heap.size (X2.heap.size + 1) b → T ≤ b ∧ b < X.heap.size from fun X hX b hb => by
       have hT := zu HT;have hbp := zu HBP;have hn4 := zu HN5;have hv6 := (zu HV6).lt;have hb6 := (zu HB6).size;have hw9 := (zu HW4).lt;have hkp := (zu HKP4).size
       rcases hb with h9 | rfl | rfl | rfl | rfl | rfl
       ·have := zu HO b h9; omega
       ·omega
       ·omega
       ·omega
       ·omega
       ·omega)
      have HJ9 := hide (zu HJ (or2 O bp bi) (or5 O bp bi n4 X2.heap.size (X2.heap.size + 1)) _ _ _ (zu HJ4) (Grw.of_bel (zu HBW9)) (fun b hb => by
       have hn4 := zu HN5;have hb6 := (zu HB6).size
       rcases hb with h9 | rfl | rfl | rfl | rfl | rfl
       ·exact .inl (.inl h9)
       ·exact .inl (.inr (.inl rfl))
       ·exact .inl (.inr (.inr rfl))
       ·exact .inr (by omega)
       ·exact .inr (by omega)
       ·exact .inr (by omega)))
      rw [hm] at HJ9;clear hbs hs4 hs2 i1 hil
      refine wpIn_mono (sa11 (l := l) (nb := c.by_ k) (sd := s + 1) (Pst_ := fun r W' => (r = true ∧ J (or5 O bp bi n4 X2.heap.size (X2.heap.size + 1)) (m + 1) W' ∧ Kpx R (or5 O bp bi n4 X2.heap.size (X2.heap.size + 1)) X4 W') ∨ (r = false ∧ Jx (or5 O bp bi n4 X2.heap.size (X2.heap.size + 1)) m W' ∧ ∀ b, or5 O bp bi n4 X2.heap.size (X2.heap.size + 1) b → b < X4.heap.size → W'.heap[b]? = X4.heap[b]?)) (hide ((zu HW4).cell (m := 0) rfl)) (hide ((zu HW4).cell (m := 1) rfl)) (hide ((zu HP9).cell (m := 0) rfl)) (hide ((zu HP9).cell (m := 1) rfl)) (hide ((zu HP9).cell (m := 2) rfl)) (hide ((zu HQ9).cell (m := 0) rfl)) (hide ((zu HQ9).cell (m := 1) rfl)) (hide ((zu HQ9).cell (m := 2) rfl)) (hide fun X _ => zu HX1 X) (hide fun X _ => zu HX2 X) (hide fun X _ => zu HX3 X) ?yld ?q2) (Only.to (fun _ _ h => h))
      case yld =>
       refine hide fun X hX => ?_
       have hy := zu HY (or5 O bp bi n4 X2.heap.size (X2.heap.size + 1)) m X (zu HMN) (fun b hb => zu HO9 X hX.size b hb) (zu HJ _ (or5 O bp bi n4 X2.heap.size (X2.heap.size + 1)) _ _ _ (zu HJ9) (Grw.of_bel hX) (fun b hb => .inl hb));rw [zu HEN] at hy;obtain ⟨fn, tmps, assign, body, hyy, hR⟩ := hy;refine ⟨fn, tmps, assign, body, hyy, hR.mono ?_⟩;rintro e W' (⟨rfl, hj, hk⟩ | ⟨rfl, hj, hk⟩)
       ·exact ⟨true, rfl, .inl ⟨rfl, hj, (Kpx.of_bel hX).trans hk⟩⟩
       ·exact ⟨false, rfl, .inr ⟨rfl, hj, fun b hb hbl => (hk b hb (Nat.lt_of_lt_of_le hbl hX.size)).trans (hX.block b hbl)⟩⟩
      case q2 =>
       rintro r W9 (⟨rfl, hj, hk⟩ | ⟨rfl, hj, hk⟩)
       ·have HSU2 : Hid (sqPC c k (s + 1) = sqPC c k s ++ [⟨c.by_ k, s + 1, ⟨f0, f1, f2, f3, f4, f5⟩⟩]) := hide (by rw [zu HSU, zu HSQ]; rfl)
        have HJA := hide (zu HJ _ (or2 O bp bi) _ _ _ hj ⟨rfl, rfl, rfl, Nat.le_refl _, fun _ _ _ => rfl⟩ (fun b hb => .inl (by rcases hb with h9 | rfl | rfl; exact .inl h9; exact .inr (.inl rfl); exact .inr (.inr (.inl rfl)))));have HPA := hide (hk.vb (zu HP9) (.inr (.inr (.inl rfl))));have HIA := hide (hk.vb (zu HI9) (.inr (.inr (.inr (.inl rfl)))));have HGA := hide (hk.vb (zu HG9) (.inl hRg));have HCA := hide (hk.vb (zu HC9) (.inl hRc));have HKA := hide (((zu HKP4).trans (Kpx.of_bel (zu HBW9))).trans (hk.sub (fun b hb => hb.elim .inl (fun h9 => .inr (.inl h9)))))
        have HSA := hide (Nat.le_trans (zu HS4) (Nat.le_trans (zu HBW9).size hk.size));have HM := hide hm;clear hj hk hm;gi_wp2;go_roundw
        case rel => exact ⟨s + 1, by simp, h, by rw [zu HSU2, List.length_append, List.length_singleton, ← Nat.add_assoc, zu HM]; exact zu HJA, zu HPA, zu HIA, zu HGA, zu HCA, zu HKA, zu HSA⟩
        case measure => simp only [intOf]; omega
       ·have HJB := hide (zu HJX _ O _ _ _ hj ⟨rfl, rfl, rfl, Nat.le_refl _, fun _ _ _ => rfl⟩ (fun b hb => .inl (.inl hb)))
        have HKB := hide (fun b (hb : O b) (hbl : b < W.heap.size) => (hk b (.inl hb) (by have := (zu HKP4).size; have := (zu HBW9).size; omega)).trans (((zu HBW9).block b (by have := (zu HKP4).size; omega)).trans ((zu HKP4).keep b (.inr hb) hbl)));clear hj hk hm;gi_wp2;refine bodyPost_ret (v := .bool false) (by simp [results, Tryz.results120, go_sem]; done) rfl ?_;exact .inr ⟨rfl, ⟨m, zu HMN, zu HJB⟩, zu HKB⟩
  ·obtain rfl : s = 6 := by omega
   have sz : decide (((6 : Nat) : Int) + 1 ≤ 6) = false := by decide
   have sz2 : ¬ (((6 : Nat) : Int) + 1 ≤ 6) := by decide
   have hjf := zu HJ _ O _ _ _ (zu HJ4) ⟨rfl, rfl, rfl, Nat.le_refl _, fun _ _ _ => rfl⟩ (fun b hb => .inl (.inl hb));rw [← List.length_append, ← sqPs_succ] at hjf;have HJF := hide hjf;clear hjf;gi_wp2;refine bodyPost_ret (v := .bool true) (by simp [results, Tryz.results120, go_sem]; done) rfl ?_;exact .inl ⟨rfl, zu HJF, zu HKP4⟩
theorem squares_any (g : Nat) (w : World) : Calls Tryz.prog 86 #[.pointer (some ⟨g, 0, none⟩)] w fun e w' => e = .returned (.func (.func 119) #[] #[.pointer (some ⟨w.heap.size, 0, none⟩)]) ∧ w' = w.alloc (.cells #[.pointer (some ⟨g, 0, none⟩)] 77) := by
 go_enter Tryz.func86, Tryz.ntmps86;go_wp2_with fail;go_ret;exact ⟨rfl, rfl⟩
def or3 (O : Nat → Prop) (p q r : Nat) : Nat → Prop := fun b => or2 O p q b ∨ b = r
structure Tq (J : (Nat → Prop) → Nat → World → Prop) (l by_ br Bg g gc T : Nat) (vd vw vm : Value) (c : Cs) (O : Nat → Prop) (k : Nat) (X : World) : Prop where
 j : J (or2 O by_ br) (sqPs c k).length X
 vy : vb X by_ 193 [.func (.yield l) #[] #[]]
 vr : vb X br 41 [.int .i64 ((0 : Nat) : Int), .int .i64 ((0 : Nat) : Int), .int .i64 ((0 : Nat) : Int), .int .i64 ((24 : Nat) : Int), .int .i64 ((24 : Nat) : Int), .int .i64 ((24 : Nat) : Int)]
 vB : vb X Bg 77 [.pointer (some ⟨g, 0, none⟩)]
 vg : vb X g 84 [.slice (some ⟨gc, 0, none⟩) 13824 13824, vd, vw, vm]
 vc : vb X gc 141 (csl c)
 far : ∀ b, O b → T ≤ b
 big : T ≤ X.heap.size
theorem fld141 (a b : Value) (W : World) : (Instr.field 141 (.agg #[a, b]) 0).run Tryz.prog W = .ok a W := by
 kernel_rfl
theorem plk_c (k : Nat) : plk 0 24 0 24 0 k = #[plv (cx k) (cy k) (cz k)] := by
 unfold plk cx cy cz;simp
def sqEnc (c : Cs) (j : Nat) : Array Value := sqe ((sqPs c 13824).getD j ⟨0, 0, bx0⟩)
theorem sqEnc_at {c : Cs} {j : Nat} {q : Sq} (h : (sqPs c 13824)[j]? = some q) : sqEnc c j = sqe q := by unfold sqEnc; rw [List.getD_eq_getElem?_getD, h]; rfl
theorem sqX (g gc Bg : Nat) (vd vw vm : Value) (c : Cs) (R : Nat → Prop) (w : World) (hRg : R g) (hRc : R gc) (hRB : R Bg)
  (hB : vb w Bg 77 [.pointer (some ⟨g, 0, none⟩)]) (hg : vb w g 84 [.slice (some ⟨gc, 0, none⟩) 13824 13824, vd, vw, vm]) (hc : vb w gc 141 (csl c)) :
  SeqX Tryz.prog 119 #[.pointer (some ⟨Bg, 0, none⟩)] (sqEnc c) (sqPs c 13824).length R w := by
 intro l J Jx W0 hW0 hJ hJx hY h0;have HY := hide hY;have HJ := hide hJ;have HJX := hide hJx;have HJ0 := hide h0
 have hlt : Bg < W0.heap.size ∧ g < W0.heap.size ∧ gc < W0.heap.size := ⟨(hB.bel hW0).lt, (hg.bel hW0).lt, (hc.bel hW0).lt⟩
 have HLT := hide hlt;have HVB := hide (fun X (h : Below W0.heap.size W0 X) => (hB.bel hW0).bel h);have HVG := hide (fun X (h : Below W0.heap.size W0 X) => (hg.bel hW0).bel h);have HVC := hide (fun X (h : Below W0.heap.size W0 X) => (hc.bel hW0).bel h);have HWH := hide (fun X => whole_any X);have HPL := hide (fun X => places_any ⟨0, 0, 0, 24, 24, 24⟩ X);have HVY0 := hide (vb_new W0 193 [.func (.yield l) #[] #[]] W0.heap.size rfl);have HB0 := hide (show Below W0.heap.size W0 (W0.alloc (.cells #[.func (.yield l) #[] #[]] 193)) from ba (bfl _ _) _);unfold bxv at HWH HPL;unfold bxc at HPL
 clear hB hg hc hW0 hJ hJx hY h0 hlt;refine callsIn_of_wp_marks Tryz.func119 rfl trivial ?_ rfl;simp only [Tryz.ntmps119, List.size_toArray, List.length_cons, List.length_nil, Nat.reduceAdd, Nat.reduceSub, Array.replicate_succ, Array.replicate_zero, List.push_toArray, List.append_toArray, List.nil_append, List.cons_append];gi_wp2;refine ⟨trivial, rfl, (callsIn_wide.2 (zu HWH _)).mono ?_⟩;rintro _ W1 ⟨rfl, hb1⟩;have HB1 := hide (bc (zu HB0) hb1);have HVY1 := hide ((zu HVY0).bel hb1);have HS1 := hide (show W0.heap.size + 1 ≤ W1.heap.size by have := hb1.size; simpa using this);clear hb1 HB0 HVY0
 gi_wp2;refine ⟨trivial, rfl, (callsIn_wide.2 (zu HPL _)).mono ?_⟩;rintro _ W2 ⟨rfl, hw2⟩;have HB2 := hide (show Below W0.heap.size W0 W2 by rw [hw2]; exact ba (zu HB1) _);have HVY2 := hide (show vb W2 W0.heap.size 193 [.func (.yield l) #[] #[]] by rw [hw2]; exact (zu HVY1).bel (ba (bfl _ _) _));have HVR2 := hide (show vb W2 W1.heap.size 41 [.int .i64 ((0 : Nat) : Int), .int .i64 ((0 : Nat) : Int), .int .i64 ((0 : Nat) : Int), .int .i64 ((24 : Nat) : Int), .int .i64 ((24 : Nat) : Int), .int .i64 ((24 : Nat) : Int)] by rw [hw2]; exact vb_new W1 41 _ _ rfl)
 have hs2 : W2.heap.size = W1.heap.size + 1 := by rw [hw2]; simp
 obtain ⟨br, hbr⟩ : ∃ q, W1.heap.size = q := ⟨_, rfl⟩
 have HJ2 := hide (zu HJ (fun _ => False) (or2 (fun _ => False) W0.heap.size br) 0 _ _ (zu HJ0) (Grw.of_bel (zu HB2)) (fun b hb => by have := zu HS1; rcases hb with h | h | h; exact h.elim; exact .inr (by omega); exact .inr (by omega)));rw [hbr] at HVR2 hs2 HS1 ⊢;have HS2 := hide hs2;clear hw2 hbr HB1 HVY1 HJ0 HWH HPL;gi_wp2
 refine range_x (R := fun b => b = br) (N := 24 * 24 * 24) (gf := 131) (lb := #[.pointer (some ⟨br, 0, none⟩)]) rfl (enters_of Tryz.func131 (by kernel_rfl) rfl) (fun b hb => by have := zu HS2; omega) (plX 0 24 24 0 24 24 0 24 24 br _ W2 rfl rfl rfl (by omega) (by omega) (by omega) rfl (zu HVR2)) (bfl _ _) (fun _ => rfl)
  (Tq J l W0.heap.size br Bg g gc (br + 1) vd vw vm c) (fun O k X => (∃ j, j < (sqPs c 13824).length ∧ Jx (or2 O W0.heap.size br) j X) ∧ (∀ b, O b → br + 1 ≤ b) ∧ br + 1 ≤ X.heap.size) ?hI ?hIx
  ⟨zu HJ2, zu HVY2, zu HVR2, zu HVB _ (zu HB2), zu HVG _ (zu HB2), zu HVC _ (zu HB2), fun _ h => h.elim, by have := zu HS2; omega⟩
  (fun O k a' X => ∃ b3, vb X b3 156 [.int .i64 (cx k : Int), .int .i64 (cy k : Int), .int .i64 (cz k : Int)] ∧ ¬ O b3 ∧ br + 1 ≤ b3 ∧ J (or3 O W0.heap.size br b3) (sqPs c k).length X ∧ (∀ b, O b → br + 1 ≤ b) ∧ a' = ({ tmps := #[.func (.yield l) #[] #[], .pointer (some ⟨Bg, 0, none⟩), .pointer (some ⟨W0.heap.size, 0, none⟩), .pointer (some ⟨b3, 0, none⟩), .agg #[.int .i64 0, .int .i64 0, .int .i64 0, .int .i64 24, .int .i64 24, .int .i64 24], .func (.func 131) #[] #[.pointer (some ⟨br, 0, none⟩)], plv (cx k) (cy k) (cz k), undef, undef, undef, undef, undef, undef, undef, undef, undef, undef, undef], defers := [] } : Act))
  ?hAx ?assign ?body ?done ?stop
 case hI =>
  rintro O O' k A B ⟨hj, hy, hr, hB, hg, hc, hfar, hbig⟩ hgr hO;have hbel : Below (br + 1) A B := hgr.bel hbig hfar;have hl3 := zu HLT;have hs1 := zu HS1;refine ⟨zu HJ _ _ _ _ _ hj (hgr.mono (fun b hb => .inl hb)) (fun b hb => ?_), hy.below hbel (by omega), hr.below hbel (by omega), hB.below hbel (by omega), hg.below hbel (by omega), hc.below hbel (by omega), fun b hb => (hO b hb).elim (hfar b) (fun h => by omega), Nat.le_trans hbig hgr.size⟩
  rcases hb with h | h
  ·exact (hO b h).elim (fun h => .inl (.inl h)) .inr
  ·exact .inl (.inr h)
 case hIx =>
  rintro O O' k A B ⟨⟨j, hjn, hj⟩, hfar, hbig⟩ hgr hO;refine ⟨⟨j, hjn, zu HJX _ _ _ _ _ hj (hgr.mono (fun b hb => .inl hb)) (fun b hb => ?_)⟩, fun b hb => (hO b hb).elim (hfar b) (fun h => by omega), Nat.le_trans hbig hgr.size⟩
  rcases hb with h | h
  ·exact (hO b h).elim (fun h => .inl (.inl h)) .inr
  ·exact .inl (.inr h)
 case hAx =>
  rintro O k a' A B ⟨b3, h1, h2, h3, h4, h5, h6⟩ hgr;exact ⟨b3, (hgr.block _ h1.lt h2).trans h1, h2, h3, zu HJ _ _ _ _ _ h4 (hgr.mono (fun b hb => .inl (.inl hb))) (fun b hb => .inl hb), h5, h6⟩
 case assign =>
  intro l' O k X K hk hO hi hK;have HK := hide hK;have HI := hide hi;clear hK hi;rw [plk_c];unfold plv;gi_wp2;have hA : Below X.heap.size X (X.alloc (.cells #[.int .i64 (cx k : Int), .int .i64 (cy k : Int), .int .i64 (cz k : Int)] 156)) := ba (bfl _ _) _;have h := zu HI
  exact zu HK _ _ (Kpx.of_bel hA) ⟨zu HJ _ _ _ _ _ h.j (Grw.of_bel hA) (fun b hb => .inl hb), h.vy.bel hA, h.vr.bel hA, h.vB.bel hA, h.vg.bel hA, h.vc.bel hA, h.far, Nat.le_trans h.big hA.size⟩ ⟨X.heap.size, vb_new X 156 _ _ rfl, fun hh => by have := (hO _ hh).2; omega, h.big, zu HJ _ _ _ _ _ h.j (Grw.of_bel hA) (fun b hb => hb.elim .inl (fun e => .inr (by omega))), h.far, rfl⟩
 case body =>
  rintro l' O k a' X _ hOl hk hO hi ⟨b3, h3, hn3, hl3, hj3, hfar3, rfl⟩;have hk' : k < 13824 := hk;have HI := hide hi;have H3 := hide h3;have HJ3 := hide hj3;have HK3 := hide hk'
  have HOB : Hid (∀ Y : World, X.heap.size ≤ Y.heap.size → ∀ b, or3 O W0.heap.size br b3 b → W0.heap.size ≤ b ∧ b < Y.heap.size) := hide (fun Y hY b hb => by
   have h1 := (zu HI).big;have h2 := (zu H3).lt;have h4 := zu HS1;have h5 := zu HS2;have h6 := (zu HB2).size
   rcases hb with (h | h | h) | h
   ·have := hO b h; omega
   ·omega
   ·omega
   ·omega)
  have HA := hide (at_any g gc vd vw vm c (cx k) (cy k) (cz k) X hi.vg hi.vc);rw [atC_self c hk'] at HA;unfold plv celV at HA;unfold plv;have hfld := fld141;have p0 := h3.cell (m := 0) rfl;have p1 := h3.cell (m := 1) rfl;have p2 := h3.cell (m := 2) rfl;have q0 := hi.vB.cell (m := 0) rfl;clear hi h3 hj3 hfar3
  cases hf : c.full k with
  | false =>
   rw [hf] at HA;have HL9 := hide (show (sqPs c (k + 1)).length = (sqPs c k).length by rw [sqPs_succ, sqPC_empty hf, List.append_nil]);clear hf;gi_wp2;refine ⟨trivial, rfl, (CallsIn.inRound l' (callsIn_wide.2 (zu HA))).mono ?_⟩;rintro _ X1 ⟨rfl, hb1⟩;have HB1 := hide hb1;clear hb1 p0 p1 p2 q0;gi_wp2;refine ⟨trivial, ?_⟩;gi_wp2;have hA := zu HB1;have h := zu HI;exact ⟨Kpx.of_bel hA, by rw [zu HL9]; exact zu HJ _ _ _ _ _ h.j (Grw.of_bel hA) (fun b hb => .inl hb), h.vy.bel hA, h.vr.bel hA, h.vB.bel hA, h.vg.bel hA, h.vc.bel hA, h.far, Nat.le_trans h.big hA.size⟩
  | true =>
   rw [hf] at HA;have HF := hide hf;clear hf;gi_wp2;refine ⟨trivial, rfl, (CallsIn.inRound l' (callsIn_wide.2 (zu HA))).mono ?_⟩;rintro _ X1 ⟨rfl, hb1⟩;have HB1 := hide hb1
   have HI1 : Hid (Tq J l W0.heap.size br Bg g gc (br + 1) vd vw vm c O k X1) := hide (by
    have h := zu HI
    exact ⟨zu HJ _ _ _ _ _ h.j (Grw.of_bel hb1) (fun b hb => .inl hb), h.vy.bel hb1, h.vr.bel hb1, h.vB.bel hb1, h.vg.bel hb1, h.vc.bel hb1, h.far, Nat.le_trans h.big hb1.size⟩)
   have H31 := (zu H3).bel hb1;have p0' := H31.cell (m := 0) rfl;have p1' := H31.cell (m := 1) rfl;have p2' := H31.cell (m := 2) rfl;have q0' := (zu HI1).vB.cell (m := 0) rfl;have y0' := (zu HI1).vy.cell (m := 0) rfl;have HJ31 := hide (zu HJ _ (or3 O W0.heap.size br b3) _ _ _ (zu HJ3) (Grw.of_bel hb1) (fun b hb => .inl hb));have hl3' := zu HLT
   have HSQ := hide (sqA_in g gc vd vw vm c R hRg hRc l (sqPs c 13824).length W0.heap.size k (sqEnc c) J Jx (or3 O W0.heap.size br b3) X1 rfl (fun j q h => sqEnc_at h) (zu HJ) (zu HJX) (fun O k W1 hk hO hj => zu HY O k W1 hk hO hj) (zu HK3) (zu HF) (fun b hb => zu HOB X1 hb1.size b hb) (by have h1 := (zu HI1).big; have h2 := zu HS1; omega) (zu HJ31) (zu HI1).vg (zu HI1).vc hl3'.2.1 hl3'.2.2);unfold plv at HSQ;clear hb1 p0 p1 p2 q0 H31 hl3';gi_wp2;refine ⟨trivial, rfl, (CallsIn.inRound l' (zu HSQ)).mono ?_⟩;rintro _ X2 (⟨rfl, hj2, hk2⟩ | ⟨rfl, ⟨j, hjn, hj2⟩, hk2⟩)
   ·have HJ9 := hide (zu HJ _ (or2 O W0.heap.size br) _ _ _ hj2 ⟨rfl, rfl, rfl, Nat.le_refl _, fun _ _ _ => rfl⟩ (fun b hb => .inl (.inl hb)))
    have HK9 := hide hk2;clear hj2 hk2 p0' p1' p2' q0' y0';gi_wp2;have h := zu HI1;have hk9 := zu HK9;exact ⟨(Kpx.of_bel (zu HB1)).trans (hk9.sub (fun b hb => hb.elim (fun e => .inr (.inl (.inr (.inr e)))) (fun e => .inr (.inl (.inl e))))), zu HJ9, hk9.vb h.vy (.inr (.inl (.inr (.inl rfl)))), hk9.vb h.vr (.inr (.inl (.inr (.inr rfl)))), hk9.vb h.vB (.inl hRB), hk9.vb h.vg (.inl hRg), hk9.vb h.vc (.inl hRc), h.far, Nat.le_trans h.big hk9.size⟩
   ·have HJ9 := hide (zu HJX _ (or2 O W0.heap.size br) _ _ _ hj2 ⟨rfl, rfl, rfl, Nat.le_refl _, fun _ _ _ => rfl⟩ (fun b hb => .inl (.inl hb)))
    have HK9 := hide hk2;clear hj2 hk2 p0' p1' p2' q0' y0';gi_wp2;refine ⟨fun b hb hbl => (zu HK9 b (.inl (.inl hb)) (Nat.lt_of_lt_of_le hbl (zu HB1).size)).trans ((zu HB1).block b hbl), ⟨j, hjn, zu HJ9⟩, (zu HI).far, ?_⟩;have h9 := zu HK9 br (.inl (.inr (.inr rfl))) (zu HI1).vr.lt;have h8 := (Array.getElem?_eq_some_iff.1 (h9.trans (zu HI1).vr)).1;omega
 case done =>
  intro O D X hD hi hK hOD;have HI := hide hi;have HK := hide hK;clear hi hK;gi_wp2;refine ⟨by simp, .inl ⟨_, _, rfl, run_takeDeferred (zu HK), ?_⟩⟩;exact ⟨_, results_none rfl _ _ _, ⟨_, rfl⟩, _, .inl (zu HJ _ _ _ _ _ (zu HI).j (Grw.put (.inl hOD) _) (fun b hb => .inl hb))⟩
 case stop =>
  intro O D k X hD hk hi hK hOD;have HI := hide hi;have HK := hide hK;clear hi hK;gi_wp2;refine ⟨by simp, .inl ⟨_, _, rfl, run_takeDeferred (zu HK), ?_⟩⟩;obtain ⟨⟨j, hjn, hj⟩, _⟩ := zu HI;exact ⟨_, results_none rfl _ _ _, ⟨_, rfl⟩, _, .inr ⟨j, hjn, zu HJX _ _ _ _ _ hj (Grw.put (.inl hOD) _) (fun b hb => .inl hb)⟩⟩
end Go.Proofs.YtkiplmabjeadgaaGreat
