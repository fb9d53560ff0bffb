/- Squares of one face: no two are one, those that touch lie one step from one another. -/
import Derived.Test.YtkiplmabjeadgaaGreatBdMathR
namespace Go.Proofs.YtkiplmabjeadgaaGreat
set_option maxRecDepth 100000
set_option maxHeartbeats 16000000
open Go.ChangeShapes Go.WideShapes Go.ChangeAt Go.RowKit
set_option linter.unusedVariables false
set_option linter.unusedSimpArgs false
structure Ivt (pk : Nat → Bool) (m : Nat) (c : Cs) : Prop where
 le : ∀ k,k < 13824 → c.by_ k ≤ m
 on : ∀ k,k < 13824 → c.full k = true → 1 ≤ c.by_ k ∧ pk (c.by_ k) = false
 off : ∀ k,k < 13824 → c.full k = false → c.by_ k = 0 ∨ pk (c.by_ k) = true
theorem Ivt.start (pk : Nat → Bool) : Ivt pk 0 cs0:=⟨fun _ _ => Nat.le_refl _,fun _ _ h => (by cases h),fun _ _ _ => .inl rfl⟩
theorem Ivt.grow {pk pk' : Nat → Bool} {m : Nat} {c : Cs} (h : Ivt pk m c) (hp : ∀ n,1 ≤ n → n ≤ m → pk' n = pk n) : Ivt pk' (m + 1) c :=
  ⟨fun k hk => by have:=h.le k hk;omega,fun k hk hf => by obtain ⟨a,b⟩:=h.on k hk hf;exact ⟨a,by rw [hp _ a (h.le k hk)];exact b⟩,fun k hk hf => by
   by_cases h0 : c.by_ k = 0
   ·exact .inl h0
   ·rcases h.off k hk hf with a | a
    ·exact (h0 a).elim
    ·exact .inr (by rw [hp _ (by omega) (h.le k hk)];exact a)⟩
theorem Ivt.put {pk : Nat → Bool} {m : Nat} {c : Cs} (h : Ivt pk m c) (b : Bx) (v : Bool) (hm : 1 ≤ m) (hv : pk m = !v) : Ivt pk m (fil b v m c):=by
 have e1 : ∀ k,k < 13824 → (fil b v m c).full k = if inB b k = true then v else c.full k:=fun k hk => by
  show (if _ then _ else _) = _
  rw [dt hk,Bool.and_true]
 have e2 : ∀ k,k < 13824 → (fil b v m c).by_ k = if (inB b k && (c.full k != v)) = true then m else c.by_ k:=fun k hk => by
  show (if _ then _ else _) = _
  rw [dt hk,Bool.and_true]
 refine ⟨fun k hk => ?_,fun k hk hf => ?_,fun k hk hf => ?_⟩
 ·rw [e2 k hk]
  split
  ·exact Nat.le_refl _
  ·exact h.le k hk
 ·rw [e1 k hk] at hf
  rw [e2 k hk]
  cases hb : inB b k with
  | false =>
   rw [hb] at hf;simp only [Bool.false_eq_true,if_false,Bool.false_and] at hf ⊢;exact h.on k hk hf
  | true =>
   rw [hb] at hf;simp only [if_true,Bool.true_and] at hf ⊢;subst hf
   split
   ·exact ⟨hm,by rw [hv];rfl⟩
   ·rename_i e;exact h.on k hk (by simpa using e)
 ·rw [e1 k hk] at hf
  rw [e2 k hk]
  cases hb : inB b k with
  | false =>
   rw [hb] at hf;simp only [Bool.false_eq_true,if_false,Bool.false_and] at hf ⊢;exact h.off k hk hf
  | true =>
   rw [hb] at hf;simp only [if_true,Bool.true_and] at hf ⊢;subst hf
   split
   ·exact .inr (by rw [hv];rfl)
   ·rename_i e;exact h.off k hk (by simpa using e)
def sqP (c : Cs) (k s : Nat) : Option Sq:=match nbr k s with
 | none => some ⟨c.by_ k,s,flt k s⟩
 | some m => if c.full m = true then none else some (if c.by_ k < c.by_ m then ⟨c.by_ m,opp s,flt k s⟩ else ⟨c.by_ k,s,flt k s⟩)
theorem sqP_tld {pk : Nat → Bool} {n : Nat} {c : Cs} (h : Ivt pk n c) {k s : Nat} (hk : k < 13824) (hf : c.full k = true) : (sqA c k s).map (tld pk) = sqP c k s:=by
 unfold sqA sqP;obtain ⟨a1,a2⟩:=h.on k hk hf
 cases e : nbr k s with
 | none => simp [tld,a2]
 | some m =>
  have hm:=nbr_lt hk e;simp only
  cases g : c.full m with
  | true => simp
  | false =>
   simp only [Bool.false_eq_true,if_false,Option.map_some,Option.some.injEq]
   rcases h.off m hm g with b | b
   ·rw [b,Nat.max_zero,if_neg (by omega)]
    simp [tld,a2]
   ·by_cases hlt : c.by_ k < c.by_ m
    ·rw [if_pos hlt,Nat.max_eq_right (by omega)]
     simp [tld,b]
    ·have hne : c.by_ k ≠ c.by_ m:=fun q => by rw [q,b] at a2;cases a2
     rw [if_neg hlt,Nat.max_eq_left (by omega)];simp [tld,a2]
def sqPC (c : Cs) (k n : Nat) : List Sq:=if c.full k = true then (List.range n).filterMap fun s => sqP c k (s + 1) else []
def sqPs (c : Cs) (K : Nat) : List Sq:=(List.range K).flatMap fun k => sqPC c k 6
theorem sqPs_tld {pk : Nat → Bool} {n : Nat} {c : Cs} (h : Ivt pk n c) : ∀ K,K ≤ 13824 → (sqs c K).map (tld pk) = sqPs c K
 | 0,_ => rfl
 | K + 1,hK => by
  have ih:=sqPs_tld h K (by omega);have e : sqPs c (K + 1) = sqPs c K ++ sqPC c K 6:=by simp [sqPs,List.range_succ]
  rw [sqs_succ,List.map_append,ih,e]
  congr 1
  unfold sqC sqPC
  cases g : c.full K with
  | false => rfl
  | true =>
   simp only [if_true];rw [List.map_filterMap]
   congr 1
   funext s
   exact sqP_tld h (by omega) g
theorem mem_sqs {c : Cs} {K : Nat} {q : Sq} (h : q ∈ sqs c K) : ∃ k s,k < K ∧ 1 ≤ s ∧ s ≤ 6 ∧ c.full k = true ∧ sqA c k s = some q:=by
 unfold sqs at h;obtain ⟨k,hk,hq⟩:=List.mem_flatMap.1 h;unfold sqC at hq
 split at hq
 ·rename_i hf
  obtain ⟨s,hs,e⟩:=List.mem_filterMap.1 hq;exact ⟨k,s + 1,List.mem_range.1 hk,by omega,by have:=List.mem_range.1 hs;omega,hf,e⟩
 ·cases hq
theorem sqA_bx {c : Cs} {k s : Nat} {q : Sq} (h : sqA c k s = some q) : q.sd = s ∧ q.bx = flt k s:=by
 unfold sqA at h
 split at h
 ·simp only [Option.some.injEq] at h;subst h;exact ⟨rfl,rfl⟩
 ·split at h
  ·cases h
  ·simp only [Option.some.injEq] at h;subst h;exact ⟨rfl,rfl⟩
theorem sqA_nbr {c : Cs} {k s m : Nat} {q : Sq} (h : sqA c k s = some q) (hm : nbr k s = some m) : c.full m = false:=by
 unfold sqA at h;rw [hm] at h;simp only at h
 split at h
 ·cases h
 ·rename_i e;simpa using e
theorem flt_inj {k k' s : Nat} (h : flt k s = flt k' s) : k = k':=by
 have key : (cx k : Int) = cx k' ∧ (cy k : Int) = cy k' ∧ (cz k : Int) = cz k':=by
  unfold flt at h
  split at h <;> (simp only [Bx.mk.injEq] at h;omega)
 rw [← at3_c k,← at3_c k',show cx k = cx k' by omega,show cy k = cy k' by omega,show cz k = cz k' by omega]
def near (a : Bx) (w : Nat) : Bx:=mvB a (stp w).1 (stp w).2.1 (stp w).2.2
theorem ex6 {P : Nat → Prop} : (∃ w,1 ≤ w ∧ w ≤ 6 ∧ P w) ↔ P 1 ∨ P 2 ∨ P 3 ∨ P 4 ∨ P 5 ∨ P 6:=by
 constructor
 ·rintro ⟨w,h1,h2,h⟩
  have : w = 1 ∨ w = 2 ∨ w = 3 ∨ w = 4 ∨ w = 5 ∨ w = 6:=by omega
  rcases this with rfl | rfl | rfl | rfl | rfl | rfl
  ·exact .inl h
  ·exact .inr (.inl h)
  ·exact .inr (.inr (.inl h))
  ·exact .inr (.inr (.inr (.inl h)))
  ·exact .inr (.inr (.inr (.inr (.inl h))))
  ·exact .inr (.inr (.inr (.inr (.inr h))))
 ·rintro (h | h | h | h | h | h)
  ·exact ⟨1,by omega,by omega,h⟩
  ·exact ⟨2,by omega,by omega,h⟩
  ·exact ⟨3,by omega,by omega,h⟩
  ·exact ⟨4,by omega,by omega,h⟩
  ·exact ⟨5,by omega,by omega,h⟩
  ·exact ⟨6,by omega,by omega,h⟩
def stepC (k k' w : Nat) : Prop:=(cx k' : Int) = cx k + (stp w).1 ∧ (cy k' : Int) = cy k + (stp w).2.1 ∧ (cz k' : Int) = cz k + (stp w).2.2
theorem nbr_step {k k' s : Nat} (hs : 1 ≤ s ∧ s ≤ 6) (hk' : k' < 13824) (h : stepC k k' s) : nbr k s = some k':=by
 obtain ⟨h1,h2,h3⟩:=h;have e:=at3_c k;have e':=at3_c k';have a1:=cx_lt k';have a2:=cy_lt k';have a3:=cz_lt hk';have hsv : s = 1 ∨ s = 2 ∨ s = 3 ∨ s = 4 ∨ s = 5 ∨ s = 6:=by omega
 have key : ∀ (p : Prop) [Decidable p] (j : Nat),¬ p → j = k' → (if p then none else some j) = some k':=by
  intro p _ j h1 h2;rw [if_neg h1,h2]
 unfold at3 at e e'
 rcases hsv with rfl | rfl | rfl | rfl | rfl | rfl
 all_goals
  simp only [stp] at h1 h2 h3;simp only [nbr];refine key _ _ (by omega) (by omega)
theorem flt_step {k k' s : Nat} (a b c : Int) : flt k' s = mvB (flt k s) a b c ↔ ((cx k' : Int) = cx k + a ∧ (cy k' : Int) = cy k + b ∧ (cz k' : Int) = cz k + c):=by
 unfold flt mvB
 split
 all_goals
  simp only [Bx.mk.injEq];constructor
  ·rintro ⟨h1,h2,h3,h4,h5,h6⟩;exact ⟨by omega,by omega,by omega⟩
  ·rintro ⟨h1,h2,h3⟩;exact ⟨by omega,by omega,by omega,by omega,by omega,by omega⟩
theorem near_iff {k k' s w : Nat} : flt k' s = near (flt k s) w ↔ stepC k k' w:=flt_step _ _ _
theorem abs_cases (d : Int) : ∃ p,absI d = p ∧ 0 ≤ p ∧ (p = d ∨ p = -d):=⟨_,rfl,by unfold absI;split <;> omega,by unfold absI;split <;> omega⟩
def acr (k k' s : Nat) : Prop:=if s = 1 ∨ s = 2 then cx k = cx k' else if s = 3 ∨ s = 4 then cy k = cy k' else cz k = cz k'
theorem tch_iff {k k' s : Nat} (hs : 1 ≤ s ∧ s ≤ 6) : tch (flt k s) (flt k' s) = true ↔ absI ((cx k : Int) - cx k') + absI ((cy k : Int) - cy k') + absI ((cz k : Int) - cz k') = 1 ∧ acr k k' s:=by
 have : s = 1 ∨ s = 2 ∨ s = 3 ∨ s = 4 ∨ s = 5 ∨ s = 6:=by omega
 have q : ∀ (a b : Int),(a + 1) - (b + 1) = a - b:=by intro a b;omega
 obtain ⟨p1,e1,p10,p1c⟩:=abs_cases ((cx k : Int) - cx k');obtain ⟨p2,e2,p20,p2c⟩:=abs_cases ((cy k : Int) - cy k');obtain ⟨p3,e3,p30,p3c⟩:=abs_cases ((cz k : Int) - cz k');unfold tch acr;simp only [Bool.and_eq_true,Bool.not_eq_true',Bool.or_eq_false_iff,Bool.and_eq_false_iff,decide_eq_true_eq,decide_eq_false_iff_not]
 rcases this with rfl | rfl | rfl | rfl | rfl | rfl
 all_goals
  simp only [flt,q,e1,e2,e3];simp only [Nat.reduceEqDiff,or_self,or_true,true_or,or_false,false_or,if_true,if_false,not_true_eq_false];omega
theorem tch_flt {k k' s : Nat} (hk : k < 13824) (hk' : k' < 13824) (hs : 1 ≤ s ∧ s ≤ 6) (h1 : nbr k s ≠ some k') (h2 : nbr k' s ≠ some k) : tch (flt k s) (flt k' s) = true ↔ ∃ w,1 ≤ w ∧ w ≤ 6 ∧ flt k' s = near (flt k s) w:=by
 have n1 : ¬ stepC k k' s:=fun h => h1 (nbr_step hs hk' h)
 have n2 : ¬ stepC k' k s:=fun h => h2 (nbr_step hs hk h)
 rw [tch_iff hs,ex6];simp only [near_iff];obtain ⟨p1,e1,p10,p1c⟩:=abs_cases ((cx k : Int) - cx k');obtain ⟨p2,e2,p20,p2c⟩:=abs_cases ((cy k : Int) - cy k');obtain ⟨p3,e3,p30,p3c⟩:=abs_cases ((cz k : Int) - cz k');rw [e1,e2,e3];have hsv : s = 1 ∨ s = 2 ∨ s = 3 ∨ s = 4 ∨ s = 5 ∨ s = 6:=by omega
 constructor
 ·rintro ⟨hsum,_⟩
  have : p1 = 1 ∨ p2 = 1 ∨ p3 = 1:=by omega
  rcases this with e | e | e
  ·have : (cx k' : Int) = cx k + -1 ∨ (cx k' : Int) = cx k + 1:=by omega
   rcases this with g | g
   ·exact .inl ⟨g,by simp only [stp];omega,by simp only [stp];omega⟩
   ·exact .inr (.inl ⟨g,by simp only [stp];omega,by simp only [stp];omega⟩)
  ·have : (cy k' : Int) = cy k + -1 ∨ (cy k' : Int) = cy k + 1:=by omega
   rcases this with g | g
   ·exact .inr (.inr (.inl ⟨by simp only [stp];omega,g,by simp only [stp];omega⟩))
   ·exact .inr (.inr (.inr (.inl ⟨by simp only [stp];omega,g,by simp only [stp];omega⟩)))
  ·have : (cz k' : Int) = cz k + -1 ∨ (cz k' : Int) = cz k + 1:=by omega
   rcases this with g | g
   ·exact .inr (.inr (.inr (.inr (.inl ⟨by simp only [stp];omega,by simp only [stp];omega,g⟩))))
   ·exact .inr (.inr (.inr (.inr (.inr ⟨by simp only [stp];omega,by simp only [stp];omega,g⟩))))
 ·intro h
  unfold stepC at n1 n2 h;unfold acr
  rcases hsv with rfl | rfl | rfl | rfl | rfl | rfl <;> rcases h with h | h | h | h | h | h
  all_goals
   simp only [stp] at n1 n2 h;obtain ⟨g1,g2,g3⟩:=h;refine ⟨by omega,?_⟩;simp only [Nat.reduceEqDiff,or_self,or_true,true_or,or_false,false_or,if_true,if_false];omega
structure Fce (c : Cs) (σ : Nat) (l : List Bx) : Prop where
 side : 1 ≤ σ ∧ σ ≤ 6
 mem : ∀ b ∈ l,∃ k,k < 13824 ∧ c.full k = true ∧ (∀ m,nbr k σ = some m → c.full m = false) ∧ b = flt k σ
 nodup : l.Nodup
theorem sqC_side (c : Cs) (k n s : Nat) : ((sqC c k n).filter fun q => q.sd == s).length ≤ 1 ∧ ∀ q ∈ sqC c k n,1 ≤ q.sd ∧ q.sd ≤ n:=by
 by_cases hf : c.full k = true
 ·induction n with
  | zero => rw [sqC_zero];simp
  | succ n ih =>
   rw [sqC_succ hf,List.filter_append,List.length_append];obtain ⟨i1,i2⟩:=ih
   cases e : sqA c k (n + 1) with
   | none => simp only [Option.toList_none,List.filter_nil,List.length_nil,List.append_nil];exact ⟨i1,fun q hq => by have:=i2 q hq;omega⟩
   | some q =>
    have hq:=(sqA_bx e).1;refine ⟨?_,fun p hp => ?_⟩
    ·by_cases hs : s = n + 1
     ·have : (sqC c k n).filter (fun q => q.sd == s) = []:=by
       rw [List.filter_eq_nil_iff];intro p hp;have:=i2 p hp;simp;omega
      rw [this];have:=List.length_filter_le (fun q : Sq => q.sd == s) [q]
      simpa using this
     ·have : (some q).toList.filter (fun q => q.sd == s) = []:=by
       rw [Option.toList_some,List.filter_cons,if_neg (by rw [hq];simp;omega)];rfl
      rw [this]
      simpa using i1
    ·rcases List.mem_append.1 hp with h | h
     ·have:=i2 p h;omega
     ·simp only [Option.toList_some,List.mem_singleton] at h
      subst h;omega
 ·rw [sqC_empty (by simpa using hf)]
  simp
theorem side_nodup (c : Cs) (s : Nat) : ∀ K,((sqs c K).filter fun q => q.sd == s).Pairwise fun p q => p.bx ≠ q.bx
 | 0 => by simp [sqs]
 | K + 1 => by
  rw [sqs_succ,List.filter_append];refine List.pairwise_append.2 ⟨side_nodup c s K,?_,?_⟩
  ·have:=(sqC_side c K 6 s).1
   generalize (sqC c K 6).filter (fun q => q.sd == s) = X at this ⊢
   match X,this with
   | [],_ => exact List.Pairwise.nil
   | [q],_ => exact List.pairwise_singleton _ _
   | _ :: _ :: _,h => simp at h
  ·intro p hp q hq e
   obtain ⟨hp1,hp2⟩:=List.mem_filter.1 hp;obtain ⟨hq1,hq2⟩:=List.mem_filter.1 hq;obtain ⟨k,s1,hk,_,_,_,h1⟩:=mem_sqs hp1;have : q ∈ sqs c (K + 1):=by rw [sqs_succ];exact List.mem_append.2 (.inr hq1)
   unfold sqC at hq1
   split at hq1
   ·obtain ⟨s2,_,h2⟩:=List.mem_filterMap.1 hq1
    obtain ⟨a1,a2⟩:=sqA_bx h1;obtain ⟨b1,b2⟩:=sqA_bx h2;have c1 : p.sd = s:=by simpa using hp2
    have c2 : q.sd = s:=by simpa using hq2
    rw [a2,b2,show s1 = s by omega,show s2 + 1 = s by omega] at e;have:=flt_inj e;omega
   ·cases hq1
theorem face_of {c : Cs} {pk : Nat → Bool} {n s : Nat} (hs : 1 ≤ s ∧ s ≤ 6) : Fce c (if pk n = true then opp s else s) (ofO ((sqs c 13824).map (tld pk)) n s):=by
 have ho : ∀ q : Sq,((tld pk q).nb == n && (tld pk q).sd == s) = true → q.nb = n:=by
  intro q h;simp only [Bool.and_eq_true,beq_iff_eq] at h;unfold tld at h
  split at h
  ·exact h.1
  ·exact h.1
 have hsd : ∀ q : Sq,(1 ≤ q.sd ∧ q.sd ≤ 6) → ((tld pk q).nb == n && (tld pk q).sd == s) = true → q.sd = if pk n = true then opp s else s:=by
  intro q hq h;have hn:=ho q h;simp only [Bool.and_eq_true,beq_iff_eq] at h;unfold tld at h;rw [hn] at h
  split
  ·rename_i e
   rw [if_pos e] at h;rw [← h.2,opp_opp hq.1]
  ·rename_i e
   rw [if_neg e] at h;exact h.2
 have hbx : ∀ q : Sq,(tld pk q).bx = q.bx:=by intro q;unfold tld;split <;> rfl
 have hop : 1 ≤ opp s ∧ opp s ≤ 6:=by unfold opp;split <;> omega
 refine ⟨by split;exact hop;exact hs,?_,?_⟩
 ·intro b hb
  unfold ofO at hb;obtain ⟨q',hq',rfl⟩:=List.mem_map.1 hb;obtain ⟨hq1,hq2⟩:=List.mem_filter.1 hq';obtain ⟨q,hq,rfl⟩:=List.mem_map.1 hq1;obtain ⟨k,s1,hk,h1,h6,hf,ha⟩:=mem_sqs hq;obtain ⟨a1,a2⟩:=sqA_bx ha;have:=hsd q (by omega) hq2;rw [hbx,← this,a1];exact ⟨k,hk,hf,fun m hm => sqA_nbr ha hm,a2⟩
 ·unfold ofO
  rw [List.filter_map,List.map_map];have e : (Sq.bx ∘ tld pk) = Sq.bx:=by funext q;exact hbx q
  rw [e];have hp:=side_nodup c (if pk n = true then opp s else s) 13824
  have e2 : ((sqs c 13824).filter ((fun q : Sq => q.nb == n && q.sd == s) ∘ tld pk)) = ((sqs c 13824).filter fun q => q.sd == (if pk n = true then opp s else s)).filter ((fun q : Sq => q.nb == n && q.sd == s) ∘ tld pk):=by
   rw [List.filter_filter];refine List.filter_congr fun q hq => ?_
   obtain ⟨k,s1,hk,h1,h6,hf,ha⟩:=mem_sqs hq;obtain ⟨a1,a2⟩:=sqA_bx ha
   cases e3 : ((fun q : Sq => q.nb == n && q.sd == s) ∘ tld pk) q with
   | false => rfl
   | true => rw [hsd q (by omega) e3];simp
  rw [e2];unfold List.Nodup;rw [List.pairwise_map];exact hp.filter _
noncomputable def tcP (l : List Bx) (i k : Nat) : Bool:=(Classical.propDecidable (∃ w,1 ≤ w ∧ w ≤ 6 ∧ l.getD k bx0 = near (l.getD i bx0) w)).decide
theorem tcP_iff {l : List Bx} {i k : Nat} : tcP l i k = true ↔ ∃ w,1 ≤ w ∧ w ≤ 6 ∧ l.getD k bx0 = near (l.getD i bx0) w:=by unfold tcP;simp
theorem Fce.tc {c : Cs} {σ : Nat} {l : List Bx} (h : Fce c σ l) {a b : Nat} (ha : a < l.length) (hb : b < l.length) : tcl l a b = tcP l a b:=by
 have ga : ∀ i,i < l.length → l.getD i bx0 ∈ l:=fun i hi => by rw [List.getD_eq_getElem?_getD,List.getElem?_eq_getElem hi];exact List.getElem_mem hi
 obtain ⟨k,hk,hf,hn,e⟩:=h.mem _ (ga a ha);obtain ⟨k',hk',hf',hn',e'⟩:=h.mem _ (ga b hb);rw [Bool.eq_iff_iff,tcP_iff];unfold tcl;rw [e,e'];refine tch_flt hk hk' h.side (fun q => ?_) (fun q => ?_)
 ·rw [hn _ q] at hf';cases hf'
 ·rw [hn' _ q] at hf;cases hf
theorem Fce.pieces {c : Cs} {σ : Nat} {l : List Bx} (h : Fce c σ l) : pcsL l = pcs (tcP l) l.length l.length :=
 pcs_congr (fun a b ha hb => h.tc ha hb) _ (Nat.le_refl _)
end Go.Proofs.YtkiplmabjeadgaaGreat
