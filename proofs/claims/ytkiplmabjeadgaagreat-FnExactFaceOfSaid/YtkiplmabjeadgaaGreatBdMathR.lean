/- The law for a statement that draws its order, within a fence. -/
import Derived.Test.YtkiplmabjeadgaaGreatFtMathR
import Derived.Test.YtkiplmabjeadgaaGreatRunesR
import Derived.Test.YtkiplmabjeadgaaGreatBdD5R
namespace Go.Proofs.YtkiplmabjeadgaaGreat
set_option maxRecDepth 100000
set_option maxHeartbeats 16000000
open Go.ChangeShapes Go.WideShapes Go.ChangeAt Go.RowKit
set_option linter.unusedVariables false
set_option linter.unusedSimpArgs false
structure Bx where
 x0 : Int
 y0 : Int
 z0 : Int
 x1 : Int
 y1 : Int
 z1 : Int
def bx0 : Bx:=⟨0,0,0,0,0,0⟩
def bxc (b : Bx) : List Value:=[.int .i64 b.x0,.int .i64 b.y0,.int .i64 b.z0,.int .i64 b.x1,.int .i64 b.y1,.int .i64 b.z1]
def bxv (b : Bx) : Value:=.agg #[.int .i64 b.x0,.int .i64 b.y0,.int .i64 b.z0,.int .i64 b.x1,.int .i64 b.y1,.int .i64 b.z1]
theorem bxc_len (b : Bx) : (bxc b).length = 6:=rfl
def mvB (b : Bx) (x y z : Int) : Bx:=⟨b.x0 + x,b.y0 + y,b.z0 + z,b.x1 + x,b.y1 + y,b.z1 + z⟩
def bxOk (b : Bx) : Bool:=decide (0 ≤ b.x0) && decide (0 ≤ b.y0) && decide (0 ≤ b.z0) && decide (b.x0 < b.x1) && decide (b.y0 < b.y1) && decide (b.z0 < b.z1) && decide (b.x1 ≤ 24) && decide (b.y1 ≤ 24) && decide (b.z1 ≤ 24)
theorem bxOk_iff {b : Bx} : bxOk b = true ↔ (0 ≤ b.x0 ∧ b.x0 < b.x1 ∧ b.x1 ≤ 24) ∧ (0 ≤ b.y0 ∧ b.y0 < b.y1 ∧ b.y1 ≤ 24) ∧ (0 ≤ b.z0 ∧ b.z0 < b.z1 ∧ b.z1 ≤ 24):=by
 unfold bxOk;simp only [Bool.and_eq_true,decide_eq_true_eq];omega
def bxS (m : Int) (b : Bx) : Prop:=(-m ≤ b.x0 ∧ b.x0 ≤ m) ∧ (-m ≤ b.y0 ∧ b.y0 ≤ m) ∧ (-m ≤ b.z0 ∧ b.z0 ≤ m) ∧ (-m ≤ b.x1 ∧ b.x1 ≤ m) ∧ (-m ≤ b.y1 ∧ b.y1 ≤ m) ∧ (-m ≤ b.z1 ∧ b.z1 ≤ m)
def at3 (x y z : Nat) : Nat:=(z * 24 + y) * 24 + x
def cx (k : Nat) : Nat:=k % 24
def cy (k : Nat) : Nat:=k / 24 % 24
def cz (k : Nat) : Nat:=k / 576
theorem at3_lt {x y z : Nat} (hx : x < 24) (hy : y < 24) (hz : z < 24) : at3 x y z < 13824:=by unfold at3;omega
theorem at3_cx {x y z : Nat} (hx : x < 24) (hy : y < 24) : cx (at3 x y z) = x:=by unfold at3 cx;omega
theorem at3_cy {x y z : Nat} (hx : x < 24) (hy : y < 24) : cy (at3 x y z) = y:=by unfold at3 cy;omega
theorem at3_cz {x y z : Nat} (hx : x < 24) (hy : y < 24) : cz (at3 x y z) = z:=by unfold at3 cz;omega
theorem at3_c (k : Nat) : at3 (cx k) (cy k) (cz k) = k:=by unfold at3 cx cy cz;omega
theorem cx_lt (k : Nat) : cx k < 24:=by unfold cx;omega
theorem cy_lt (k : Nat) : cy k < 24:=by unfold cy;omega
theorem cz_lt {k : Nat} (h : k < 13824) : cz k < 24:=by unfold cz;omega
def inB (b : Bx) (k : Nat) : Bool:=decide (b.x0 ≤ (cx k : Int)) && decide ((cx k : Int) < b.x1) && decide (b.y0 ≤ (cy k : Int)) && decide ((cy k : Int) < b.y1) && decide (b.z0 ≤ (cz k : Int)) && decide ((cz k : Int) < b.z1)
theorem inB_iff {b : Bx} {k : Nat} : inB b k = true ↔ (b.x0 ≤ (cx k : Int) ∧ (cx k : Int) < b.x1) ∧ (b.y0 ≤ (cy k : Int) ∧ (cy k : Int) < b.y1) ∧ (b.z0 ≤ (cz k : Int) ∧ (cz k : Int) < b.z1):=by
 unfold inB;simp only [Bool.and_eq_true,decide_eq_true_eq];omega
structure Cs where
 full : Nat → Bool
 by_ : Nat → Nat
def cs0 : Cs:=⟨fun _ => false,fun _ => 0⟩
def filP (b : Bx) (v : Bool) (n : Nat) (c : Cs) (K : Nat) : Cs:=⟨fun k => if (inB b k && decide (k < K)) = true then v else c.full k,fun k => if ((inB b k && decide (k < K)) && (c.full k != v)) = true then n else c.by_ k⟩
def fil (b : Bx) (v : Bool) (n : Nat) (c : Cs) : Cs:=filP b v n c 13824
theorem filP_zero (b : Bx) (v : Bool) (n : Nat) (c : Cs) : filP b v n c 0 = c:=by
 unfold filP;simp
theorem filP_gap {b : Bx} {K L : Nat} (v : Bool) (n : Nat) (c : Cs) (hKL : K ≤ L) (h : ∀ k,K ≤ k → k < L → inB b k = false) : filP b v n c K = filP b v n c L:=by
 have e : ∀ k,(inB b k && decide (k < K)) = (inB b k && decide (k < L)):=by
  intro k
  by_cases h1 : k < K
  ·rw [dt h1,dt (show k < L by omega)]
  ·by_cases h2 : k < L
   ·rw [h k (by omega) h2];rfl
   ·rw [df h1,df h2]
 unfold filP;simp only [e]
theorem filP_in {b : Bx} {K : Nat} (v : Bool) (n : Nat) (c : Cs) (h : inB b K = true) : (filP b v n c (K + 1)).full = (fun k => if k = K then v else (filP b v n c K).full k) ∧ (filP b v n c (K + 1)).by_ = (fun k => if k = K then (if (filP b v n c K).full K = v then (filP b v n c K).by_ K else n) else (filP b v n c K).by_ k) ∧ (filP b v n c K).full K = c.full K:=by
 refine ⟨?_,?_,?_⟩
 ·funext k
  show (if _ then _ else _) = _
  by_cases e : k = K
  ·subst e;rw [h,if_pos (by simp),if_pos rfl]
  ·rw [if_neg e]
   show _ = (if _ then _ else _)
   have : decide (k < K + 1) = decide (k < K):=by rw [decide_eq_decide];omega
   rw [this]
 ·funext k
  show (if _ then _ else _) = _
  by_cases e : k = K
  ·subst e
   rw [if_pos rfl];unfold filP;simp only [h,Nat.lt_irrefl,decide_false,Bool.and_false,Bool.false_and,Bool.false_eq_true,if_false,Nat.lt_succ_self,decide_true,Bool.and_self,Bool.true_and]
   cases c.full k <;> cases v <;> simp
  ·rw [if_neg e]
   show _ = (if _ then _ else _)
   have : decide (k < K + 1) = decide (k < K):=by rw [decide_eq_decide];omega
   rw [this]
 ·unfold filP
  simp
theorem filP_row {b : Bx} (v : Bool) (n : Nat) (c : Cs) {y z x1 : Nat} (hx : b.x1 = (x1 : Int)) (h24 : x1 ≤ 24) (hy : y < 24) : filP b v n c ((z * 24 + y) * 24 + x1) = filP b v n c ((z * 24 + (y + 1)) * 24):=by
 refine filP_gap v n c (by omega) fun k h1 h2 => ?_
 rw [← Bool.not_eq_true,inB_iff];rintro ⟨⟨_,h3⟩,_⟩;unfold cx at h3;omega
theorem filP_rowL {b : Bx} (v : Bool) (n : Nat) (c : Cs) {y z x0 : Nat} (hx : b.x0 = (x0 : Int)) (h24 : x0 ≤ 24) : filP b v n c ((z * 24 + y) * 24) = filP b v n c ((z * 24 + y) * 24 + x0):=by
 refine filP_gap v n c (by omega) fun k h1 h2 => ?_
 rw [← Bool.not_eq_true,inB_iff];rintro ⟨⟨h3,_⟩,_⟩;unfold cx at h3;omega
theorem filP_lay {b : Bx} (v : Bool) (n : Nat) (c : Cs) {z y1 : Nat} (hy : b.y1 = (y1 : Int)) (h24 : y1 ≤ 24) : filP b v n c ((z * 24 + y1) * 24) = filP b v n c ((z + 1) * 576):=by
 refine filP_gap v n c (by omega) fun k h1 h2 => ?_
 rw [← Bool.not_eq_true,inB_iff];rintro ⟨_,⟨_,h3⟩,_⟩;unfold cy at h3;omega
theorem filP_layL {b : Bx} (v : Bool) (n : Nat) (c : Cs) {z y0 : Nat} (hy : b.y0 = (y0 : Int)) (h24 : y0 ≤ 24) : filP b v n c (z * 576) = filP b v n c ((z * 24 + y0) * 24):=by
 refine filP_gap v n c (by omega) fun k h1 h2 => ?_
 rw [← Bool.not_eq_true,inB_iff];rintro ⟨_,⟨h3,_⟩,_⟩;unfold cy at h3;omega
theorem filP_top {b : Bx} (v : Bool) (n : Nat) (c : Cs) {z1 : Nat} (hz : b.z1 = (z1 : Int)) (h24 : z1 ≤ 24) : filP b v n c (z1 * 576) = fil b v n c:=by
 refine filP_gap v n c (by omega) fun k h1 h2 => ?_
 rw [← Bool.not_eq_true,inB_iff];rintro ⟨_,_,⟨_,h3⟩⟩;unfold cz at h3;omega
theorem filP_bot {b : Bx} (v : Bool) (n : Nat) (c : Cs) {z0 : Nat} (hz : b.z0 = (z0 : Int)) : c = filP b v n c (z0 * 576):=by
 rw [← filP_gap (K:=0) v n c (by omega) fun k h1 h2 => ?_,filP_zero];rw [← Bool.not_eq_true,inB_iff];rintro ⟨_,_,⟨h3,_⟩⟩;unfold cz at h3;omega
theorem inB_at {b : Bx} {x y z : Nat} (hx : b.x0 ≤ (x : Int) ∧ (x : Int) < b.x1) (hy : b.y0 ≤ (y : Int) ∧ (y : Int) < b.y1) (hz : b.z0 ≤ (z : Int) ∧ (z : Int) < b.z1) (h1 : x < 24) (h2 : y < 24) : inB b ((z * 24 + y) * 24 + x) = true:=by
 have e : (z * 24 + y) * 24 + x = at3 x y z:=rfl;rw [e,inB_iff,at3_cx h1 h2,at3_cy h1 h2,at3_cz h1 h2];exact ⟨hx,hy,hz⟩
def stp : Nat → Int × Int × Int
 | 1 => (-1,0,0)
 | 2 => (1,0,0)
 | 3 => (0,-1,0)
 | 4 => (0,1,0)
 | 5 => (0,0,-1)
 | _ => (0,0,1)
def opp (s : Nat) : Nat:=if s % 2 = 1 then s + 1 else s - 1
theorem opp_opp {s : Nat} (h : 1 ≤ s) : opp (opp s) = s:=by unfold opp;split <;> split <;> omega
def nbr (k : Nat) : Nat → Option Nat
 | 1 => if cx k = 0 then none else some (k - 1)
 | 2 => if cx k = 23 then none else some (k + 1)
 | 3 => if cy k = 0 then none else some (k - 24)
 | 4 => if cy k = 23 then none else some (k + 24)
 | 5 => if cz k = 0 then none else some (k - 576)
 | _ => if cz k = 23 then none else some (k + 576)
theorem nbr_lt {k s m : Nat} (hk : k < 13824) (h : nbr k s = some m) : m < 13824:=by
 have key : ∀ (p : Prop) [Decidable p] (j : Nat),(if p then none else some j) = some m → ¬ p ∧ j = m:=by
  intro p _ j h
  by_cases hp : p
  ·rw [if_pos hp] at h;cases h
  ·rw [if_neg hp] at h;exact ⟨hp,Option.some.inj h⟩
 unfold nbr at h
 split at h <;> (obtain ⟨h1,rfl⟩:=key _ _ h;simp only [cx,cy,cz] at h1;omega)
def flt (k : Nat) : Nat → Bx
 | 1 => ⟨cx k,cy k,cz k,cx k,(cy k : Int) + 1,(cz k : Int) + 1⟩
 | 2 => ⟨(cx k : Int) + 1,cy k,cz k,(cx k : Int) + 1,(cy k : Int) + 1,(cz k : Int) + 1⟩
 | 3 => ⟨cx k,cy k,cz k,(cx k : Int) + 1,cy k,(cz k : Int) + 1⟩
 | 4 => ⟨cx k,(cy k : Int) + 1,cz k,(cx k : Int) + 1,(cy k : Int) + 1,(cz k : Int) + 1⟩
 | 5 => ⟨cx k,cy k,cz k,(cx k : Int) + 1,(cy k : Int) + 1,cz k⟩
 | _ => ⟨cx k,cy k,(cz k : Int) + 1,(cx k : Int) + 1,(cy k : Int) + 1,(cz k : Int) + 1⟩
structure Sq where
 nb : Nat
 sd : Nat
 bx : Bx
def sqc (q : Sq) : List Value:=.int .i64 (q.nb : Int) :: .int .i64 (q.sd : Int) :: bxc q.bx
theorem sqc_len (q : Sq) : (sqc q).length = 8:=rfl
def sqA (c : Cs) (k s : Nat) : Option Sq:=match nbr k s with
 | none => some ⟨c.by_ k,s,flt k s⟩
 | some m => if c.full m = true then none else some ⟨max (c.by_ k) (c.by_ m),s,flt k s⟩
def sqC (c : Cs) (k n : Nat) : List Sq:=if c.full k = true then (List.range n).filterMap fun s => sqA c k (s + 1) else []
def sqs (c : Cs) (K : Nat) : List Sq:=(List.range K).flatMap fun k => sqC c k 6
theorem sqs_succ (c : Cs) (K : Nat) : sqs c (K + 1) = sqs c K ++ sqC c K 6:=by simp [sqs,List.range_succ]
theorem sqC_zero (c : Cs) (k : Nat) : sqC c k 0 = []:=by unfold sqC;split <;> rfl
theorem sqC_succ {c : Cs} {k : Nat} (h : c.full k = true) (n : Nat) : sqC c k (n + 1) = sqC c k n ++ (sqA c k (n + 1)).toList:=by
 unfold sqC;rw [if_pos h,if_pos h,List.range_succ,List.filterMap_append]
 congr 1
theorem sqC_empty {c : Cs} {k : Nat} (h : c.full k = false) (n : Nat) : sqC c k n = []:=by unfold sqC;rw [if_neg (by rw [h];simp)]
theorem sqC_len (c : Cs) (k n : Nat) : (sqC c k n).length ≤ n:=by
 unfold sqC
 split
 ·have:=List.length_filterMap_le (fun s => sqA c k (s + 1)) (List.range n)
  rw [List.length_range] at this;exact this
 ·simp
theorem sqs_len (c : Cs) : ∀ K,(sqs c K).length ≤ 6 * K
 | 0 => by simp [sqs]
 | K + 1 => by
  have:=sqs_len c K;have h2:=sqC_len c K 6;rw [sqs_succ,List.length_append];omega
def tld (pk : Nat → Bool) (q : Sq) : Sq:=if pk q.nb = true then ⟨q.nb,opp q.sd,q.bx⟩ else q
def ofO (l : List Sq) (n s : Nat) : List Bx:=(l.filter fun q => q.nb == n && q.sd == s).map Sq.bx
theorem ofO_take {l : List Sq} {i : Nat} {q : Sq} (h : l[i]? = some q) (n s : Nat) : ofO (l.take (i + 1)) n s = ofO (l.take i) n s ++ (if (q.nb == n && q.sd == s) = true then [q.bx] else []):=by
 unfold ofO;rw [List.take_add_one,h,List.filter_append,List.map_append]
 cases e : (q.nb == n && q.sd == s) <;> simp [List.filter_cons,e]
def arn (a b : Bx) : Bx:=⟨min a.x0 b.x0,min a.y0 b.y0,min a.z0 b.z0,max a.x1 b.x1,max a.y1 b.y1,max a.z1 b.z1⟩
theorem arn_self (a : Bx) : arn a a = a:=by unfold arn;simp
def hul : List Bx → Bx
 | [] => bx0
 | b :: l => l.foldl arn b
theorem hul_one (b : Bx) : hul [b] = b:=rfl
theorem hul_app {l : List Bx} (h : l ≠ []) (b : Bx) : hul (l ++ [b]) = arn (hul l) b:=by
 cases l with
 | nil => exact (h rfl).elim
 | cons a l => simp [hul,List.foldl_append]
def absI (x : Int) : Int:=if x < 0 then -x else x
def tch (a b : Bx) : Bool :=
 decide (absI (a.x0 - b.x0) + absI (a.y0 - b.y0) + absI (a.z0 - b.z0) = 1) && !((decide (absI (a.x0 - b.x0) = 1) && decide (a.x0 = a.x1)) || (decide (absI (a.y0 - b.y0) = 1) && decide (a.y0 = a.y1)) || (decide (absI (a.z0 - b.z0) = 1) && decide (a.z0 = a.z1)))
def tcl (l : List Bx) (i k : Nat) : Bool:=tch (l.getD i bx0) (l.getD k bx0)
noncomputable def pcsL (l : List Bx) : Nat:=pcs (tcl l) l.length l.length
def ftB (f : Ft) : Bx:=⟨f.x0,f.y0,f.z0,f.x1,f.y1,f.z1⟩
def ofF (fs : List Ft) (f : Ft) : Ft:=fs.getD ((findN fs f.ov).getD 0) ft0
def kdF (fs : List Ft) (f : Ft) : Int:=if f.kd = 3 then (ofF fs f).kd else f.kd
def bxsN (fs : List Ft) (f : Ft) (n : Nat) : List Bx:=(List.range n).map fun (t : Nat) => mvB (ftB (ofF fs f)) (((t : Int) + 1) * f.dx) (((t : Int) + 1) * f.dy) (((t : Int) + 1) * f.dz)
def bxs (fs : List Ft) (f : Ft) : List Bx:=if f.kd = 3 then bxsN fs f f.ct.toNat else [ftB f]
structure Bd where
 done : List Nat
 cs : Cs
def bd0 : Bd:=⟨[],cs0⟩
def byL (fs : List Ft) (done : List Nat) (s : ByteArray) : Nat → Nat
 | 0 => 0
 | n + 1 => if sEq (fs.getD (done.getD n 0) ft0).nm s = true then n + 1 else byL fs done s n
def byOf (fs : List Ft) (done : List Nat) (s : ByteArray) : Nat:=byL fs done s done.length
def pkt (fs : List Ft) (done : List Nat) (n : Nat) : Bool:=decide (n ≠ 0) && decide (kdF fs (fs.getD (done.getD (n - 1) 0) ft0) = 2)
def tlds (fs : List Ft) (B : Bd) : List Sq:=(sqs B.cs 13824).map (tld (pkt fs B.done))
noncomputable def stood (fs : List Ft) (B : Bd) (f : Ft) : (Int × List ByteArray) ⊕ List Bx :=
 if emp f.on = true then .inr (bxs fs f)
 else
  let l:=ofO (tlds fs B) (byOf fs B.done f.on) f.sd.toNat
  if l = [] then .inl (8,[f.nm,f.on])
  else if 1 < pcsL l then .inl (13,[f.nm,f.on])
  else .inr [mvB (ftB f) (hul l).x0 (hul l).y0 (hul l).z0]
noncomputable def doF (fs : List Ft) (B : Bd) (i : Nat) : (Int × List ByteArray) ⊕ Bd :=
 match stood fs B (fs.getD i ft0) with
 | .inl x => .inl x
 | .inr l => if l.any (fun b => !bxOk b) = true then .inl (5,[(fs.getD i ft0).nm])
  else .inr ⟨B.done ++ [i],l.foldl (fun c b => fil b (decide (kdF fs (fs.getD i ft0) = 1)) (B.done.length + 1) c) B.cs⟩
noncomputable def runB (fs : List Ft) (left : Nat → Bool) : List Nat → Bd → (Int × List ByteArray) ⊕ Bd
 | [],B => .inr B
 | k :: l,B => if left k = true then runB fs left l B else match doF fs B k with
  | .inl x => .inl x
  | .inr B' => runB fs left l B'
theorem runB_app (fs : List Ft) (left : Nat → Bool) : ∀ (l m : List Nat) (B : Bd),runB fs left (l ++ m) B = match runB fs left l B with | .inl x => .inl x | .inr B' => runB fs left m B'
 | [],m,B => rfl
 | k :: l,m,B => by
  show (if left k = true then runB fs left (l ++ m) B else match doF fs B k with | .inl x => .inl x | .inr B' => runB fs left (l ++ m) B') = match (if left k = true then runB fs left l B else match doF fs B k with | .inl x => .inl x | .inr B' => runB fs left l B') with | .inl x => .inl x | .inr B' => runB fs left m B'
  split
  ·exact runB_app fs left l m B
  ·cases doF fs B k with
   | inl x => rfl
   | inr B' => exact runB_app fs left l m B'
def RStepsF (F : Fence) (n : Nat) (P : Program) (ops : Array Oper) (Q : Exit → Act → World → Prop) (I : Array Bool → Act → World → Prop) (listed : Array Bool) (a : Act) (w : World) : Nat → List Oper → Prop
 | _,[] => True
 | i,o :: rest => (listed.getD i true = false → (o.after.all fun e => !Region.binds .any e || listed.getD e.on false) = true →
   ∀ K' : Act → World → Prop,Hid (∀ a' w',I (listed.setIfInBounds i true) a' w' → K' a' w') → if Region.wanted o (yielded ops a.tmps) = true then Oper.wpIn F n P o a w K' Q else (∀ f,o.about P w a.eval = some f → F.fn f) ∧ K' (a.put o.dst undef) w) ∧ RStepsF F n P ops Q I listed a w (i + 1) rest
section
variable {F : Fence} {n : Nat} {P : Program} {ops : Array Oper} {Q : Exit → Act → World → Prop} {I : Array Bool → Act → World → Prop}
theorem RStepsF.at {listed : Array Bool} {a : Act} {w : World} : ∀ (l : List Oper) (k i : Nat) (o : Oper),RStepsF F n P ops Q I listed a w k l → l[i]? = some o → listed.getD (k + i) true = false →
  (o.after.all fun e => !Region.binds .any e || listed.getD e.on false) = true →
  ∀ K' : Act → World → Prop,Hid (∀ a' w',I (listed.setIfInBounds (k + i) true) a' w' → K' a' w') → if Region.wanted o (yielded ops a.tmps) = true then Oper.wpIn F n P o a w K' Q else (∀ f,o.about P w a.eval = some f → F.fn f) ∧ K' (a.put o.dst undef) w:=by
 intro l
 induction l with
 | nil => intro k i o _ h;simp at h
 | cons x l ih =>
  intro k i o h hi
  cases i with
  | zero => simp at hi;subst hi;exact h.1
  | succ i =>
   have:=ih (k + 1) i o h.2 (by simpa using hi);rw [show k + 1 + i = k + (i + 1) by omega] at this;exact this
theorem wpAnyIn_inv (hfw : forward2 ops = true)
  (hstep : ∀ listed a w,I listed a w → RStepsF F n P ops Q I listed a w 0 ops.toList)
  (hend : ∀ listed a w,I listed a w → listed = Array.replicate ops.size true → Q .normal a w) :
  ∀ (fu : Nat) (listed : Array Bool) (a : Act) (w : World),listed.size = ops.size → listed.toList.count false ≤ fu → I listed a w → wpAnyIn F n P .any ops Q fu listed a w:=by
 have alltrue : ∀ listed : Array Bool,listed.size = ops.size → (∀ i,i < ops.size → listed.getD i true = true) → listed = Array.replicate ops.size true:=by
  intro listed hs h;apply Array.ext
  ·simp [hs]
  ·intro i h1 h2
   have:=h i (by omega);simp [h1] at this;simp [this]
 have fin : ∀ listed : Array Bool,listed.size = ops.size → Region.ready .any ops listed = [] → listed = Array.replicate ops.size true:=by
  intro listed hs hr;refine alltrue listed hs ?_;intro i
  induction i using Nat.strongRecOn with
  | _ i ih =>
   intro hi
   cases hl : listed.getD i true with
   | true => rfl
   | false =>
    have : i ∈ Region.ready .any ops listed:=by
     rw [mem_ready];refine ⟨hl,ops[i],Array.getElem?_eq_getElem hi,fun e he hb => ?_⟩
     have hlt : e.on < i:=by
      have h1:=hfw;unfold forward2 at h1;rw [List.all_eq_true] at h1;have h2:=h1 i (by simpa using hi);rw [Array.getElem?_eq_getElem hi] at h2;simp only [Option.map_some,Option.getD_some,Array.all_eq_true_iff_forall_mem] at h2;have h3:=h2 e he;rw [hb] at h3
      simpa using h3
     have h3:=ih e.on hlt (by omega);have : e.on < listed.size:=by omega
     simp [this] at h3 ⊢;exact h3
    rw [hr] at this
    cases this
 intro fu
 induction fu with
 | zero =>
  intro listed a w hs hc hI
  have e : listed = Array.replicate ops.size true:=by
   refine alltrue listed hs fun i hi => ?_
   have:=count_none (l:=listed.toList) (by omega) (i:=i) (by simp;omega);rw [Array.getElem?_toList] at this;simp [this]
  refine ⟨?_,hend _ _ _ hI e⟩;rw [e];apply List.eq_nil_iff_forall_not_mem.2;intro i hi;rw [mem_ready] at hi;obtain ⟨h0,o,ho,_⟩:=hi;have : i < ops.size:=(Array.getElem?_eq_some_iff.1 ho).1;simp [this] at h0
 | succ fu ih =>
  intro listed a w hs hc hI;refine ⟨fun hr => hend _ _ _ hI (fin listed hs hr),fun i hi => ?_⟩;obtain ⟨h0,o,ho,hall⟩:=mem_ready.1 hi
  have hlt : i < listed.size:=by
   have:=(Array.getElem?_eq_some_iff.1 ho).1;omega
  have hst:=RStepsF.at ops.toList 0 i o (hstep _ _ _ hI) (by rw [Array.getElem?_toList];exact ho) (by rw [Nat.zero_add];exact h0) (by
   rw [Array.all_eq_true_iff_forall_mem];intro e he
   cases hb : Region.binds .any e
   ·rfl
   ·rw [hall e he hb];rfl)
  rw [Nat.zero_add] at hst;refine wpOpIn_step ho (fun K' hK => hst K' (fun a' w' h => hK a' w' (ih _ a' w' (by simpa using hs) ?_ h)));rw [Array.toList_setIfInBounds]
  have:=count_set listed.toList i (by
   rw [Array.getElem?_toList];simp [hlt] at h0 ⊢
   exact h0)
  omega
theorem wpIn_region_inv {id : Nat} {a : Act} {w : World} (I : Array Bool → Act → World → Prop) (hm : P.follows .mixedOrders = true) (hfw : forward2 ops = true)
  (h0 : I (Array.replicate ops.size false) a w.drew)
  (hstep : ∀ listed a w,I listed a w → RStepsF F n P ops Q I listed a w 0 ops.toList)
  (hend : ∀ listed a w,I listed a w → listed = Array.replicate ops.size true → Q .normal a w) : (Code.region id ops true).wpIn F n P Q a w:=by
 refine wpIn_region_any hm (wpAnyIn_inv hfw hstep hend _ _ _ _ (by simp) ?_ h0);simp
end
end Go.Proofs.YtkiplmabjeadgaaGreat
