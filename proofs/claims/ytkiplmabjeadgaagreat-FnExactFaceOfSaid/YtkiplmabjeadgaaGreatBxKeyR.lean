/- The map from names to the numbers of those done; owners held against one another. -/
import Derived.Test.YtkiplmabjeadgaaGreatBqMathR
import Derived.Test.YtkiplmabjeadgaaGreatMpFR
import Derived.Maps.OwnSet
import Derived.Maps.Ext
import Derived.DeepKeys3
import Derived.Test.YtkiplmabjeadgaaGreatBdSqR
import Derived.Test.YtkiplmabjeadgaaGreatStOpenR
namespace Go.Proofs.YtkiplmabjeadgaaGreat
set_option maxRecDepth 100000
set_option maxHeartbeats 16000000
open Go.ChangeShapes Go.WideShapes Go.ChangeAt Go.RowKit Go.Maps Go.WideMaps
set_option linter.unusedVariables false
set_option linter.unusedSimpArgs false
def keyB (b : Bx) : Lit:=.string (keyBytes [.int .i64 b.x0,.int .i64 b.y0,.int .i64 b.z0,.int .i64 b.x1,.int .i64 b.y1,.int .i64 b.z1])
theorem ktype41 : Tryz.prog.keyType 41 = true:=by kernel_rfl
theorem cellsOf41 : Tryz.prog.cellsOf 41 = 6:=by kernel_rfl
theorem tsize : ∃ m,Tryz.prog.types.size = m + 1:=⟨Tryz.prog.types.size - 1,by
 have : 0 < Tryz.prog.types.size:=by
  have h : (Tryz.prog.types.size == 0) = false:=by kernel_rfl
  have h2 : ¬ Tryz.prog.types.size = 0:=fun e => by rw [e] at h;cases h
  omega
 omega⟩
theorem wf64 {a : Int} (h : -1000000 ≤ a ∧ a ≤ 1000000) : (Lit.int .i64 a).wf = true:=by
 show (decide (IntKind.i64.min ≤ a) && decide (a ≤ IntKind.i64.max)) = true
 rw [Bool.and_eq_true,decide_eq_true_eq,decide_eq_true_eq];have h1 : IntKind.i64.min = -9223372036854775808:=by rfl
 have h2 : IntKind.i64.max = 9223372036854775807:=by rfl
 omega
theorem keyOf_bx {b : Bx} (h : bxS 1000000 b) : keyOf Tryz.prog 41 (bxv b) = some (keyB b):=by
 obtain ⟨m,hm⟩:=tsize;obtain ⟨w0,w1,w2,w3,w4,w5⟩:=h;have w0:=wf64 w0;have w1:=wf64 w1;have w2:=wf64 w2;have w3:=wf64 w3;have w4:=wf64 w4;have w5:=wf64 w5;unfold keyOf;simp only [Tryz.underlying41];rw [if_pos (by simp [ktype41,Value.formed,Tryz.underlying41,cellsOf41,bxv]),hm];unfold Program.keyLits;simp only [Tryz.underlying41,bxv,Value.cells];rw [if_pos (by simp [cellsOf41])];have c3 : Tryz.prog.cellsOf 3 = 1:=by kernel_rfl
 simp [c3,Program.keyLits,Tryz.underlying3,w0,w1,w2,w3,w4,w5,keyB]
theorem keyt41 : Tryz.prog.keyTypeAt 3 41 = true:=by kernel_rfl
theorem tiled41 : Tryz.prog.tiled 3 41 = true:=by kernel_rfl
theorem lawB : Keyed Tryz.prog 41:=Keyed.of_law (deep_law (m:=3) (by omega) keyt41 tiled41 (by kernel_rfl))
theorem bxv_inj {a b : Bx} (h : bxv a = bxv b) : a = b:=by
 obtain ⟨a0,a1,a2,a3,a4,a5⟩:=a;obtain ⟨b0,b1,b2,b3,b4,b5⟩:=b;simp only [bxv,Value.agg.injEq,Array.mk.injEq,List.cons.injEq,Value.int.injEq,true_and,and_true] at h;obtain ⟨rfl,rfl,rfl,rfl,rfl,rfl⟩:=h;rfl
theorem keyB_inj {a b : Bx} (ha : bxS 1000000 a) (hb : bxS 1000000 b) (h : keyB a = keyB b) : a = b :=
 bxv_inj (lawB.inj (keyOf_bx ha) (by rw [keyOf_bx hb,h]))
theorem keyB_key (b : Bx) : WideAt.IsKeyLit (keyB b):=by
 unfold keyB;trivial
def DatS (D : DataW Unit) (S : Bx → Bool) : Prop:=∀ b,bxS 1000000 b → has D (keyB b) = S b
noncomputable def upS (S : Bx → Bool) (b : Bx) (c : Bx) : Bool:=open Classical in if c = b then true else S c
noncomputable def dnS (S : Bx → Bool) (b : Bx) (c : Bx) : Bool:=open Classical in if c = b then false else S c
theorem DatS.empty : DatS (.map []) fun _ => false:=fun b _ => rfl
theorem DatS.put {D : DataW Unit} {S : Bx → Bool} (h : DatS D S) (hm : IsMap D) {b : Bx} (hb : bxS 1000000 b) (d : DataW Unit) : DatS (D.put (keyB b) d) (upS S b):=by
 intro c hc;unfold upS
 by_cases e : c = b
 ·subst e
  rw [if_pos rfl,has_put_same hm (keyB_key c)]
 ·rw [if_neg e,has_put_other (fun h => e (keyB_inj hc hb h)),h c hc]
theorem DatS.del {D : DataW Unit} {S : Bx → Bool} (h : DatS D S) {b : Bx} (hb : bxS 1000000 b) : DatS (D.del (keyB b)) (dnS S b):=by
 intro c hc;unfold dnS
 by_cases e : c = b
 ·subst e
  rw [if_pos rfl,has_del_same]
 ·rw [if_neg e,has_del_other (fun h => e (keyB_inj hc hb h)),h c hc]
def MpS (w : World) (b n : Nat) (S : Bx → Bool) : Prop:=∃ D,w.ownsMap Tryz.prog 41 (plainElem (H:=Unit) Tryz.prog 3) b n D ∧ DatS D S
theorem MpS.lt {w : World} {b n : Nat} {S : Bx → Bool} (h : MpS w b n S) : b < w.heap.size:=by
 obtain ⟨D,h,_⟩:=h;exact h.lt
theorem MpS.blk {w w' : World} {b n : Nat} {S : Bx → Bool} (h : MpS w b n S) (hb : w'.heap[b]? = w.heap[b]?) : MpS w' b n S:=by
 obtain ⟨D,⟨es,clock,hb',r⟩,hd⟩:=h;exact ⟨D,⟨es,clock,hb.trans hb',r⟩,hd⟩
theorem MpS.bel {w w' : World} {b n : Nat} {S : Bx → Bool} (h : MpS w b n S) (hb : Below w.heap.size w w') : MpS w' b n S:=h.blk (hb.block b h.lt)
theorem MpS.made (w : World) : MpS (w.alloc (.map #[] 0)) w.heap.size 0 fun _ => false:=⟨_,World.ownsMap_made w Tryz.prog 41 _,DatS.empty⟩
theorem MpS.look {w : World} {b n : Nat} {S : Bx → Bool} (h : MpS w b n S) {k : Bx} (hk : bxS 1000000 k) :
  ∃ z,(Instr.lookup 230 (.map (some b)) (bxv k) true).run Tryz.prog w = .ok (.tuple #[.int .i64 z,.bool (S k)]) w:=by
 obtain ⟨D,h,hd⟩:=h;obtain ⟨v,ps,hrun,hv⟩:=World.ownsMap.look_ok (t:=230) (e:=3) h lawB Tryz.underlying230 (zero3 w) (zd:=.lit (.int .i64 0)) (zp:=[]) (plainElem_int Tryz.underlying3 (by decide)) (key:=bxv k) (kl:=keyB k) (keyOf_bx hk);obtain ⟨c,rfl,hc,_⟩:=plainElem_int_inv Tryz.underlying3 hv;exact ⟨c,by rw [hrun,hd k hk]⟩
theorem MpS.store {w : World} {b n : Nat} {S : Bx → Bool} (h : MpS w b n S) (hn : n < maxLen) {k : Bx} (hk : bxS 1000000 k) {v : Int} (hv : (Lit.int .i64 v).wf = true) :
  ∃ w',(Instr.mapUpdate 230 (.map (some b)) (bxv k) (.int .i64 v)).run Tryz.prog w = .ok () w' ∧ MpS w' b (n + 1) (upS S k) ∧ w.mapTurned w' b:=by
 obtain ⟨D,h,hd⟩:=h;obtain ⟨w',h1,h2,h3⟩:=h.store lawB Tryz.underlying230 hn (keyOf_bx hk) (plainElem_int Tryz.underlying3 hv);exact ⟨w',h1,⟨_,h2,hd.put h.isMap hk _⟩,h3⟩
section
variable (w : World) {ops : Array Oper} {rest : List Oper} {o : Oper} {a : Act} {Q : Exit → Act → World → Prop}
theorem wpl_dropS (hg : o.guard = none) (m x : Operand) (hop : o.op = Op.call { callee:=Callee.builtin Builtin.delete,args:=#[m,x],argTypes:=#[230,41] })
  (b n : Nat) (S : Bx → Bool) (hm : a.eval m = .map (some b)) (h : MpS w b n S) (k : Bx) (hx : a.eval x = bxv k) (hk : bxS 1000000 k)
  (hK : ∀ w',MpS w' b n (dnS S k) → w.mapTurned w' b → wpList Tryz.prog ops Q rest (a.put o.dst (.tuple #[])) w') :
  wpList Tryz.prog ops Q (o :: rest) a w:=by
 obtain ⟨D,h,hd⟩:=h;refine wpList_plain hg fun K' hK' => ?_
 obtain ⟨w',hrun,r1,r2⟩:=h.drop lawB Tryz.underlying230 (keyOf_bx hk) o.type;unfold Oper.wp;simp [execOp,hop,resolve,invoke,builtin,hm,hx,hrun,Result.andThen];exact hK' _ _ (hK w' ⟨_,r1,hd.del hk⟩ r2)
theorem wpl_putS (hg : o.guard = none) (m x v : Operand) (hop : o.op = Op.mapUpdate 230 m x v) (b n : Nat) (S : Bx → Bool)
  (hm : a.eval m = .map (some b)) (h : MpS w b n S) (hn : n < maxLen) (k : Bx) (z : Int) (hx : a.eval x = bxv k) (hv : a.eval v = .int .i64 z) (hk : bxS 1000000 k) (hz : (Lit.int .i64 z).wf = true)
  (hK : ∀ w',MpS w' b (n + 1) (upS S k) → w.mapTurned w' b → wpList Tryz.prog ops Q rest (a.put o.dst undef) w') :
  wpList Tryz.prog ops Q (o :: rest) a w:=by
 refine wpList_plain hg fun K' hK' => ?_
 obtain ⟨w',hrun,r1,r2⟩:=h.store hn hk hz;unfold Oper.wp;simp [execOp,hop,hm,hx,hv,hrun,Result.andThen];exact hK' _ _ (hK w' r1 r2)
end
structure LookQ (t : Nat → Nat → Bool) (n i a : Nat) (Q : Nat → Prop) (S : Nat → Bool) (st : List Nat) : Prop where
 old : ∀ k,Sn t n i k → k < n → S k = true
 just : ∀ k,k < n → S k = true → Sn t n i k ∨ Rch t n i k
 first : S i = true
 stack : ∀ k ∈ st,k < n ∧ S k = true ∧ Rch t n i k
 next : ∀ b,b < n → S b = true → b ∉ st → b ≠ a → ∀ k,k < n → t b k = true → S k = true
 mine : ∀ k,Q k → k < n → t a k = true → S k = true
 at_ : a < n ∧ S a = true ∧ Rch t n i a
theorem Walk.lookQ {t : Nat → Nat → Bool} {n i a : Nat} {S : Nat → Bool} {st : List Nat} (h : Walk t n i S (a :: st)) {Q : Nat → Prop} (hQ : ∀ k,¬ Q k) : LookQ t n i a Q S st :=
  ⟨h.old,h.just,h.first,fun k hk => h.stack k (List.mem_cons_of_mem _ hk),fun b hb hs hn hne k hk ht => h.next b hb hs (by simp [hn,hne]) k hk ht,fun k hk => (hQ k hk).elim,h.stack a (List.mem_cons_self ..)⟩
theorem LookQ.skip {t : Nat → Nat → Bool} {n i a : Nat} {Q Q' : Nat → Prop} {S : Nat → Bool} {st : List Nat} (h : LookQ t n i a Q S st) (hs : ∀ k,Q' k → k < n → Q k ∨ S k = true) : LookQ t n i a Q' S st :=
  ⟨h.old,h.just,h.first,h.stack,h.next,fun k hk hn ht => (hs k hk hn).elim (fun e => h.mine k e hn ht) id,h.at_⟩
theorem LookQ.push {t : Nat → Nat → Bool} {n i a K : Nat} {Q Q' : Nat → Prop} {S : Nat → Bool} {st : List Nat} (h : LookQ t n i a Q S st) (hK : K < n) (ht : t a K = true) (hQ : ∀ k,Q' k → k < n → Q k ∨ k = K) : LookQ t n i a Q' (fun k => if k = K then true else S k) (st ++ [K]):=by
 have hr : Rch t n i K:=.step h.at_.2.2 hK ht;refine ⟨fun k hk hn => ?_,fun k hk hs => ?_,?_,fun k hk => ?_,fun b hb hs hn hne k hk hbk => ?_,fun k hk hn hak => ?_,?_⟩
 ·split
  ·rfl
  ·exact h.old k hk hn
 ·split at hs
  ·rename_i e;subst e;exact .inr hr
  ·exact h.just k hk hs
 ·split
  ·rfl
  ·exact h.first
 ·rcases List.mem_append.1 hk with hk | hk
  ·obtain ⟨h1,h2,h3⟩:=h.stack k hk
   exact ⟨h1,by split <;> first | rfl | exact h2,h3⟩
  ·simp only [List.mem_singleton] at hk;subst hk
   exact ⟨hK,by simp,hr⟩
 ·have hbK : b ≠ K:=fun e => hn (by simp [e])
  rw [if_neg hbK] at hs
  split
  ·rfl
  ·exact h.next b hb hs (fun e => hn (by simp [e])) hne k hk hbk
 ·split
  ·rfl
  ·rename_i e
   rcases hQ k hk hn with h1 | h1
   ·exact h.mine k h1 hn hak
   ·exact (e h1).elim
 ·exact ⟨h.at_.1,by split <;> first | rfl | exact h.at_.2.1,h.at_.2.2⟩
theorem LookQ.end_ {t : Nat → Nat → Bool} {n i a : Nat} {Q : Nat → Prop} {S : Nat → Bool} {st : List Nat} (h : LookQ t n i a Q S st) (hQ : ∀ k,k < n → t a k = true → Q k) : Walk t n i S st :=
  ⟨h.old,h.just,h.first,h.stack,fun b hb hs hn k hk ht => by
   by_cases e : b = a
   ·subst e;exact h.mine k (hQ k hk ht) hk ht
   ·exact h.next b hb hs hn e k hk ht⟩
noncomputable def lfS (l : List Bx) (S : Nat → Bool) (b : Bx) : Bool:=open Classical in decide (∃ k,l[k]? = some b ∧ S k = false)
theorem lfS_iff {l : List Bx} {S : Nat → Bool} {b : Bx} : lfS l S b = true ↔ ∃ k,l[k]? = some b ∧ S k = false:=by unfold lfS;simp
theorem nod_eq {l : List Bx} (h : l.Nodup) {i j : Nat} {b : Bx} (hi : l[i]? = some b) (hj : l[j]? = some b) : i = j:=by
 obtain ⟨h1,e1⟩:=List.getElem?_eq_some_iff.1 hi;obtain ⟨h2,e2⟩:=List.getElem?_eq_some_iff.1 hj;have hp:=List.pairwise_iff_getElem.1 h
 rcases Nat.lt_trichotomy i j with e | e | e
 ·exact (hp i j h1 h2 e (e1.trans e2.symm)).elim
 ·exact e
 ·exact (hp j i h2 h1 e (e2.trans e1.symm)).elim
theorem lfS_at {l : List Bx} (h : l.Nodup) {S : Nat → Bool} {k : Nat} {b : Bx} (hk : l[k]? = some b) : lfS l S b = !S k:=by
 rw [Bool.eq_iff_iff,lfS_iff];constructor
 ·rintro ⟨j,hj,hs⟩
  rw [nod_eq h hk hj,hs];rfl
 ·intro e
  exact ⟨k,hk,by simpa using e⟩
theorem lfS_drop {l : List Bx} (h : l.Nodup) {S : Nat → Bool} {K : Nat} {b : Bx} (hK : l[K]? = some b) : dnS (lfS l S) b = lfS l (fun k => if k = K then true else S k):=by
 funext c
 unfold dnS
 by_cases e : c = b
 ·subst e
  rw [if_pos rfl,lfS_at h hK,if_pos rfl];rfl
 ·rw [if_neg e,Bool.eq_iff_iff,lfS_iff,lfS_iff]
  constructor
  ·rintro ⟨k,hk,hs⟩
   have : k ≠ K:=fun e2 => e (by rw [e2,hK] at hk;cases hk;rfl)
   exact ⟨k,hk,by rw [if_neg this];exact hs⟩
  ·rintro ⟨k,hk,hs⟩
   split at hs
   ·cases hs
   ·exact ⟨k,hk,hs⟩
def byW (l : List Bx) (a W k : Nat) : Prop:=∃ w,1 ≤ w ∧ w ≤ W ∧ l.getD k bx0 = near (l.getD a bx0) w
theorem byW_zero (l : List Bx) (a k : Nat) : ¬ byW l a 0 k:=by rintro ⟨w,h1,h2,_⟩;omega
theorem byW_six {l : List Bx} {a k : Nat} (h : tcP l a k = true) : byW l a 6 k:=tcP_iff.1 h
theorem byW_succ {l : List Bx} {a W k : Nat} (h : byW l a (W + 1) k) : byW l a W k ∨ l.getD k bx0 = near (l.getD a bx0) (W + 1):=by
 obtain ⟨w,h1,h2,h3⟩:=h
 by_cases e : w = W + 1
 ·subst e;exact .inr h3
 ·exact .inl ⟨w,h1,by omega,h3⟩
theorem near_S {m : Int} {b : Bx} (h : bxS m b) (w : Nat) : bxS (m + 1) (near b w):=by
 unfold near;refine mvB_S h ?_ ?_ ?_ <;> (unfold stp;split <;> decide)
def MpN (w : World) (b n : Nat) (fs : List Ft) (l : List Nat) : Prop:=∃ D,w.ownsMap Tryz.prog 9 (plainElem (H:=Unit) Tryz.prog 3) b n D ∧ ∀ s,D.atKey (keyL s) (.lit (.int .i64 0)) = .lit (.int .i64 (byOf fs l s : Int))
theorem MpN.lt {w : World} {b n : Nat} {fs : List Ft} {l : List Nat} (h : MpN w b n fs l) : b < w.heap.size:=by
 obtain ⟨D,h,_⟩:=h;exact h.lt
theorem MpN.blk {w w' : World} {b n : Nat} {fs : List Ft} {l : List Nat} (h : MpN w b n fs l) (hb : w'.heap[b]? = w.heap[b]?) : MpN w' b n fs l:=by
 obtain ⟨D,⟨es,clock,hb',r⟩,hd⟩:=h;exact ⟨D,⟨es,clock,hb.trans hb',r⟩,hd⟩
theorem MpN.bel {w w' : World} {b n : Nat} {fs : List Ft} {l : List Nat} (h : MpN w b n fs l) (hb : Below w.heap.size w w') : MpN w' b n fs l:=h.blk (hb.block b h.lt)
theorem MpN.made (w : World) (fs : List Ft) : MpN (w.alloc (.map #[] 0)) w.heap.size 0 fs []:=⟨_,World.ownsMap_made w Tryz.prog 9 _,fun s => by simp [DataW.atKey,byOf,byL]⟩
theorem MpN.look {w : World} {b n : Nat} {fs : List Ft} {l : List Nat} (h : MpN w b n fs l) (s : ByteArray) (hs : s.size ≤ maxLen) :
  (Instr.lookup 82 (.map (some b)) (.string s) false).run Tryz.prog w = .ok (.int .i64 (byOf fs l s : Int)) w:=by
 obtain ⟨D,h,hd⟩:=h;obtain ⟨v,ps,hrun,hv⟩:=World.ownsMap.lookup (t:=82) (e:=3) h lawK Tryz.underlying82 (zero3 w) (zd:=.lit (.int .i64 0)) (zp:=[]) (plainElem_int Tryz.underlying3 (by decide)) (key:=.string s) (kl:=keyL s) (keyOf_string_mk Tryz.underlying9 hs);obtain ⟨c,rfl,hc,_⟩:=plainElem_int_inv Tryz.underlying3 hv;have hc':=congrArg Prod.fst hc;simp only at hc';rw [hd s] at hc';simp only [DataW.lit.injEq,Lit.int.injEq,true_and] at hc';rw [hrun,hc']
theorem byOf_app (fs : List Ft) (l : List Nat) (i : Nat) (s : ByteArray) : byOf fs (l ++ [i]) s = if sEq (fs.getD i ft0).nm s = true then l.length + 1 else byOf fs l s:=by
 have gd : ∀ n,n < l.length → (l ++ [i]).getD n 0 = l.getD n 0:=by
  intro n hn;rw [List.getD_eq_getElem?_getD,List.getD_eq_getElem?_getD,List.getElem?_append_left hn]
 have ge : (l ++ [i]).getD l.length 0 = i:=by
  rw [List.getD_eq_getElem?_getD,List.getElem?_append_right (Nat.le_refl _),Nat.sub_self];rfl
 have key : ∀ n,n ≤ l.length → byL fs (l ++ [i]) s n = byL fs l s n:=by
  intro n
  induction n with
  | zero => intro _;rfl
  | succ n ih =>
   intro hn
   show (if sEq (fs.getD ((l ++ [i]).getD n 0) ft0).nm s = true then n + 1 else byL fs (l ++ [i]) s n) = (if sEq (fs.getD (l.getD n 0) ft0).nm s = true then n + 1 else byL fs l s n)
   rw [ih (by omega),gd n (by omega)]
 unfold byOf;rw [List.length_append,List.length_singleton]
 show (if sEq (fs.getD ((l ++ [i]).getD l.length 0) ft0).nm s = true then l.length + 1 else byL fs (l ++ [i]) s l.length) = _
 rw [key _ (Nat.le_refl _),ge]
theorem MpN.store {w : World} {b n : Nat} {fs : List Ft} {l : List Nat} (h : MpN w b n fs l) (hn : n < maxLen) (i : Nat) (hs : (fs.getD i ft0).nm.size ≤ maxLen) (hl : l.length ≤ 100000) :
  ∃ w',(Instr.mapUpdate 82 (.map (some b)) (.string (fs.getD i ft0).nm) (.int .i64 ((l.length + 1 : Nat) : Int))).run Tryz.prog w = .ok () w' ∧ MpN w' b (n + 1) fs (l ++ [i]) ∧ w.mapTurned w' b:=by
 obtain ⟨D,h,hd⟩:=h;have hwf : (Lit.int .i64 ((l.length + 1 : Nat) : Int)).wf = true:=wf64 (by omega);obtain ⟨w',h1,h2,h3⟩:=h.store (kl:=keyL (fs.getD i ft0).nm) lawK Tryz.underlying82 hn (keyOf_string_mk Tryz.underlying9 hs) (plainElem_int Tryz.underlying3 hwf);refine ⟨w',h1,⟨_,h2,fun s => ?_⟩,h3⟩;rw [byOf_app]
 by_cases e : (fs.getD i ft0).nm = s
 ·rw [← e,sEq_refl,if_pos rfl,atKey_put_same h.isMap (keyL_key _)]
 ·rw [sEq_ne e,if_neg (by simp),atKey_put_other (fun h => e (keyL_inj h).symm),hd s]
theorem eqO (a1 a2 b1 b2 : Int) (W : World) : (binOp .eql 147 (.agg #[.int .i64 a1,.int .i64 a2]) (.agg #[.int .i64 b1,.int .i64 b2])).run Tryz.prog W = .ok (.bool (a1 == b1 && a2 == b2)) W:=by
 cases h1 : a1 == b1 <;> cases h2 : a2 == b2
 all_goals go_simp
end Go.Proofs.YtkiplmabjeadgaaGreat
