/- The squares around a cell, the program's way, plain. -/
import Derived.Test.YtkiplmabjeadgaaGreatStOpenR
namespace Go.Proofs.YtkiplmabjeadgaaGreat
set_option maxRecDepth 100000
set_option maxHeartbeats 16000000
open Go.ChangeShapes Go.WideShapes Go.ChangeAt Go.RowKit
set_option linter.unusedVariables false
set_option linter.unusedSimpArgs false
theorem atC_at (c : Cs) {x y z : Nat} (hx : x < 24) (hy : y < 24) (hz : z < 24) : atC c x y z = (c.full (at3 x y z),c.by_ (at3 x y z)):=by
 unfold atC;rw [if_pos (by omega)];simp
theorem atC_out (c : Cs) {x y z : Int} (h : ¬ ((0 ≤ x ∧ x ≤ 23) ∧ (0 ≤ y ∧ y ≤ 23) ∧ (0 ≤ z ∧ z ≤ 23))) : atC c x y z = (false,0):=by
 unfold atC;rw [if_neg h]
theorem atC_self (c : Cs) {k : Nat} (hk : k < 13824) : atC c (cx k) (cy k) (cz k) = (c.full k,c.by_ k):=by
 rw [atC_at c (cx_lt k) (cy_lt k) (cz_lt hk),at3_c]
def bes (c : Cs) (k s : Nat) : Bool × Nat:=match nbr k s with
 | none => (false,0)
 | some m => (c.full m,c.by_ m)
theorem at_bes (c : Cs) {k s : Nat} (hk : k < 13824) (hs : 1 ≤ s ∧ s ≤ 6) : atC c ((cx k : Int) + (stp s).1) ((cy k : Int) + (stp s).2.1) ((cz k : Int) + (stp s).2.2) = bes c k s:=by
 have h1:=cx_lt k;have h2:=cy_lt k;have h3:=cz_lt hk;have e:=at3_c k
 have key : ∀ (x y z : Nat) (a b d : Int),(cx k : Int) + a = x → (cy k : Int) + b = y → (cz k : Int) + d = z → x < 24 → y < 24 → z < 24 → atC c ((cx k : Int) + a) ((cy k : Int) + b) ((cz k : Int) + d) = (c.full (at3 x y z),c.by_ (at3 x y z)):=by
  intro x y z a b d ha hb hd hx hy hz;rw [ha,hb,hd];exact atC_at c hx hy hz
 have : s = 1 ∨ s = 2 ∨ s = 3 ∨ s = 4 ∨ s = 5 ∨ s = 6:=by omega
 unfold at3 at e
 rcases this with rfl | rfl | rfl | rfl | rfl | rfl
 ·by_cases h : cx k = 0
  ·rw [atC_out c (by simp only [stp];omega)]
   unfold bes;simp only [nbr,if_pos h]
  ·rw [key (cx k - 1) (cy k) (cz k) _ _ _ (by simp only [stp];omega) (by simp only [stp];omega) (by simp only [stp];omega) (by omega) (by omega) (by omega)]
   unfold bes;simp only [nbr,if_neg h];rw [show at3 (cx k - 1) (cy k) (cz k) = k - 1 by unfold at3;omega]
 ·by_cases h : cx k = 23
  ·rw [atC_out c (by simp only [stp];omega)]
   unfold bes;simp only [nbr,if_pos h]
  ·rw [key (cx k + 1) (cy k) (cz k) _ _ _ (by simp only [stp];omega) (by simp only [stp];omega) (by simp only [stp];omega) (by omega) (by omega) (by omega)]
   unfold bes;simp only [nbr,if_neg h];rw [show at3 (cx k + 1) (cy k) (cz k) = k + 1 by unfold at3;omega]
 ·by_cases h : cy k = 0
  ·rw [atC_out c (by simp only [stp];omega)]
   unfold bes;simp only [nbr,if_pos h]
  ·rw [key (cx k) (cy k - 1) (cz k) _ _ _ (by simp only [stp];omega) (by simp only [stp];omega) (by simp only [stp];omega) (by omega) (by omega) (by omega)]
   unfold bes;simp only [nbr,if_neg h];rw [show at3 (cx k) (cy k - 1) (cz k) = k - 24 by unfold at3;omega]
 ·by_cases h : cy k = 23
  ·rw [atC_out c (by simp only [stp];omega)]
   unfold bes;simp only [nbr,if_pos h]
  ·rw [key (cx k) (cy k + 1) (cz k) _ _ _ (by simp only [stp];omega) (by simp only [stp];omega) (by simp only [stp];omega) (by omega) (by omega) (by omega)]
   unfold bes;simp only [nbr,if_neg h];rw [show at3 (cx k) (cy k + 1) (cz k) = k + 24 by unfold at3;omega]
 ·by_cases h : cz k = 0
  ·rw [atC_out c (by simp only [stp];omega)]
   unfold bes;simp only [nbr,if_pos h]
  ·rw [key (cx k) (cy k) (cz k - 1) _ _ _ (by simp only [stp];omega) (by simp only [stp];omega) (by simp only [stp];omega) (by omega) (by omega) (by omega)]
   unfold bes;simp only [nbr,if_neg h];rw [show at3 (cx k) (cy k) (cz k - 1) = k - 576 by unfold at3;omega]
 ·by_cases h : cz k = 23
  ·rw [atC_out c (by simp only [stp];omega)]
   unfold bes;simp only [nbr,if_pos h]
  ·rw [key (cx k) (cy k) (cz k + 1) _ _ _ (by simp only [stp];omega) (by simp only [stp];omega) (by simp only [stp];omega) (by omega) (by omega) (by omega)]
   unfold bes;simp only [nbr,if_neg h];rw [show at3 (cx k) (cy k) (cz k + 1) = k + 576 by unfold at3;omega]
theorem cmn_flt (k s : Nat) (hs : 1 ≤ s ∧ s ≤ 6) : cmn ⟨cx k,cy k,cz k,(cx k : Int) + 1,(cy k : Int) + 1,(cz k : Int) + 1⟩ ⟨(cx k : Int) + (stp s).1,(cy k : Int) + (stp s).2.1,(cz k : Int) + (stp s).2.2,(cx k : Int) + (stp s).1 + 1,(cy k : Int) + (stp s).2.1 + 1,(cz k : Int) + (stp s).2.2 + 1⟩ = flt k s:=by
 have : s = 1 ∨ s = 2 ∨ s = 3 ∨ s = 4 ∨ s = 5 ∨ s = 6:=by omega
 unfold cmn
 rcases this with rfl | rfl | rfl | rfl | rfl | rfl <;> (simp only [flt,stp,Bx.mk.injEq];omega)
theorem sqP_bes (c : Cs) (k s : Nat) : sqP c k s = if (bes c k s).1 = true then none else some (if c.by_ k < (bes c k s).2 then ⟨(bes c k s).2,opp s,flt k s⟩ else ⟨c.by_ k,s,flt k s⟩):=by
 unfold sqP bes
 cases nbr k s with
 | none => simp
 | some m => rfl
def sqe (q : Sq) : Array Value:=#[.agg #[.int .i64 (q.nb : Int),.int .i64 (q.sd : Int)],bxv q.bx]
theorem sqPC_succ {c : Cs} {k : Nat} (h : c.full k = true) (n : Nat) : sqPC c k (n + 1) = sqPC c k n ++ (sqP c k (n + 1)).toList:=by
 unfold sqPC;rw [if_pos h,if_pos h,List.range_succ,List.filterMap_append]
 congr 1
theorem sqPs_succ (c : Cs) (K : Nat) : sqPs c (K + 1) = sqPs c K ++ sqPC c K 6:=by simp [sqPs,List.range_succ]
theorem sqPC_empty {c : Cs} {k : Nat} (h : c.full k = false) (n : Nat) : sqPC c k n = []:=by unfold sqPC;rw [if_neg (by rw [h];simp)]
theorem sqPC_mono {c : Cs} {k n m : Nat} (h : n ≤ m) : ∃ T,sqPC c k m = sqPC c k n ++ T:=by
 by_cases hf : c.full k = true
 ·obtain ⟨d,rfl⟩ : ∃ d,m = n + d:=⟨m - n,by omega⟩
  clear h
  induction d with
  | zero => exact ⟨[],by simp⟩
  | succ d ih =>
   obtain ⟨T,hT⟩:=ih;exact ⟨T ++ (sqP c k (n + d + 1)).toList,by rw [← Nat.add_assoc,sqPC_succ hf,hT,List.append_assoc]⟩
 ·exact ⟨[],by rw [sqPC_empty (by simpa using hf),sqPC_empty (by simpa using hf)];rfl⟩
theorem sqPs_mono {c : Cs} {K M : Nat} (h : K ≤ M) : ∃ T,sqPs c M = sqPs c K ++ T:=by
 obtain ⟨d,rfl⟩ : ∃ d,M = K + d:=⟨M - K,by omega⟩
 clear h
 induction d with
 | zero => exact ⟨[],by simp⟩
 | succ d ih =>
  obtain ⟨T,hT⟩:=ih;exact ⟨T ++ sqPC c (K + d) 6,by rw [← Nat.add_assoc,sqPs_succ,hT,List.append_assoc]⟩
theorem sqPs_at {c : Cs} {k s : Nat} {q : Sq} (hk : k < 13824) (hf : c.full k = true) (hs : s < 6) (h : sqP c k (s + 1) = some q) : (sqPs c 13824)[(sqPs c k).length + (sqPC c k s).length]? = some q:=by
 obtain ⟨T,hT⟩:=sqPs_mono (c:=c) (K:=k + 1) (M:=13824) (by omega);obtain ⟨T2,hT2⟩:=sqPC_mono (c:=c) (k:=k) (n:=s + 1) (m:=6) (by omega);rw [hT,sqPs_succ,hT2,sqPC_succ hf,h,List.append_assoc,List.getElem?_append_right (by omega),Nat.add_sub_cancel_left,List.append_assoc,List.append_assoc,List.getElem?_append_right (by omega),Nat.sub_self];rfl
end Go.Proofs.YtkiplmabjeadgaaGreat
