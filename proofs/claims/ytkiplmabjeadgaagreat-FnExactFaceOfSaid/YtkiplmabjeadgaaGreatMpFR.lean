/- The program's number of steps from each to a goal. -/
import Derived.Test.YtkiplmabjeadgaaGreatBdMemR
import Derived.Maps.OwnSet
import Derived.Deep.LoopGhost
namespace Go.Proofs.YtkiplmabjeadgaaGreat
set_option maxRecDepth 100000
set_option maxHeartbeats 16000000
open Go.ChangeShapes Go.WideShapes Go.ChangeAt Go.RowKit Go.Maps Go.WideMaps
set_option linter.unusedVariables false
set_option linter.unusedSimpArgs false
def keyL (s : ByteArray) : Lit:=.string s.data.toList
theorem keyL_inj {s t : ByteArray} (h : keyL s = keyL t) : s = t:=by
 unfold keyL at h
 cases s;cases t
 simp only [Lit.string.injEq] at h;rw [Array.toList_inj.1 h]
theorem keyL_key (s : ByteArray) : WideAt.IsKeyLit (keyL s):=by
 unfold keyL;exact trivial
def Dn (fs : List Ft) : Nat → DataW Unit
 | 0 => .map []
 | k + 1 => (Dn fs k).put (keyL (fs.getD k ft0).nm) (.lit (.int .i64 (k : Int)))
theorem Dn_tidy (fs : List Ft) : ∀ k,Tidy (Dn fs k)
 | 0 => tidy_empty
 | k + 1 => (Dn_tidy fs k).put (keyL_key _) _
theorem findN_succ {fs : List Ft} {k : Nat} {f : Ft} (h : fs[k]? = some f) (s : ByteArray) : findN (fs.take (k + 1)) s = match findN (fs.take k) s with | some i => some i | none => if sEq f.nm s then some k else none:=by
 have hl : (fs.take k).length = k:=by rw [List.length_take];have:=(List.getElem?_eq_some_iff.1 h).1;omega
 unfold findN;rw [List.take_add_one,h,Option.toList_some,List.findIdx?_append]
 cases e : (fs.take k).findIdx? fun f => sEq f.nm s with
 | some i => rfl
 | none =>
  simp only [Option.none_or,List.findIdx?_cons,hl]
  cases e2 : sEq f.nm s <;> simp
theorem Dn_has (fs : List Ft) (s : ByteArray) : ∀ k,k ≤ fs.length → has (Dn fs k) (keyL s) = (findN (fs.take k) s).isSome:=by
 intro k
 induction k with
 | zero => intro _;simp [Dn,has,findN]
 | succ k ih =>
  intro hk;have hx : fs[k]? = some fs[k]:=List.getElem?_eq_getElem (by omega);rw [findN_succ hx]
  show has ((Dn fs k).put (keyL (fs.getD k ft0).nm) _) (keyL s) = _
  rw [getD_at hx]
  by_cases e : fs[k].nm = s
  ·subst e
   rw [has_put_same (Dn_tidy fs k).isMap (keyL_key _),sEq_refl]
   cases findN (fs.take k) fs[k].nm <;> rfl
  ·rw [has_put_other (fun h => e (keyL_inj h).symm),ih (by omega),sEq_ne e]
   cases findN (fs.take k) s <;> rfl
theorem Dn_at (fs : List Ft) (s : ByteArray) (zd : DataW Unit) : ∀ k,k ≤ fs.length → (∀ (j : Nat) (g : Ft),j < k → fs[j]? = some g → findN (fs.take j) g.nm = none) → (Dn fs k).atKey (keyL s) zd = match findN (fs.take k) s with | some i => .lit (.int .i64 (i : Int)) | none => zd:=by
 intro k
 induction k with
 | zero => intro _ _;simp [Dn,DataW.atKey,findN]
 | succ k ih =>
  intro hk hu;have hx : fs[k]? = some fs[k]:=List.getElem?_eq_getElem (by omega);have hno:=hu k _ (by omega) hx;rw [findN_succ hx]
  show ((Dn fs k).put (keyL (fs.getD k ft0).nm) _).atKey (keyL s) zd = _
  rw [getD_at hx]
  by_cases e : fs[k].nm = s
  ·subst e
   rw [hno,sEq_refl];exact atKey_put_same (Dn_tidy fs k).isMap (keyL_key _) _ _
  ·rw [sEq_ne e,atKey_put_other (fun h => e (keyL_inj h).symm),ih (by omega) (fun j g hj hg => hu j g (by omega) hg)]
   cases findN (fs.take k) s <;> rfl
def MapOf (w : World) (b : Nat) (fs : List Ft) (k : Nat) : Prop:=w.ownsMap Tryz.prog 9 (plainElem (H:=Unit) Tryz.prog 3) b k (Dn fs k)
theorem MapOf.blk {w w' : World} {b k : Nat} {fs : List Ft} (h : MapOf w b fs k) (hb : w'.heap[b]? = w.heap[b]?) : MapOf w' b fs k:=by
 obtain ⟨es,clock,hb',r⟩:=h;exact ⟨es,clock,hb.trans hb',r⟩
theorem MapOf.lt {w : World} {b k : Nat} {fs : List Ft} (h : MapOf w b fs k) : b < w.heap.size:=by
 obtain ⟨es,clock,hb',r⟩:=h;exact (Array.getElem?_eq_some_iff.1 hb').1
theorem MapOf.bel {w w' : World} {b k : Nat} {fs : List Ft} (h : MapOf w b fs k) (hb : Below w.heap.size w w') : MapOf w' b fs k:=h.blk (hb.block b h.lt)
theorem lawK : Keyed Tryz.prog 9:=string_keyed Tryz.underlying9
theorem zero3 (w : World) : (zeroValue 3).run Tryz.prog w = .ok (.int .i64 0) w:=by simp [go_sem]
def findZ (fs : List Ft) (s : ByteArray) : Int:=match findN fs s with | some i => (i : Int) | none => 0
theorem MapOf.look {w : World} {b k : Nat} {fs : List Ft} (h : MapOf w b fs k) (hk : k ≤ fs.length) (hu : ∀ (j : Nat) (g : Ft),j < k → fs[j]? = some g → findN (fs.take j) g.nm = none) (s : ByteArray) (hs : s.size ≤ maxLen) :
  (Instr.lookup 82 (.map (some b)) (.string s) true).run Tryz.prog w = .ok (.tuple #[.int .i64 (findZ (fs.take k) s),.bool (findN (fs.take k) s).isSome]) w:=by
 obtain ⟨v,ps,hrun,hv⟩:=World.ownsMap.look_ok (t:=82) (e:=3) h lawK Tryz.underlying82 (zero3 w) (zd:=.lit (.int .i64 0)) (zp:=[]) (plainElem_int Tryz.underlying3 (by decide)) (key:=.string s) (kl:=keyL s) (keyOf_string_mk Tryz.underlying9 hs);obtain ⟨c,rfl,hc,_⟩:=plainElem_int_inv Tryz.underlying3 hv;have hc':=congrArg Prod.fst hc;simp only at hc';rw [Dn_at fs s _ k hk hu] at hc';rw [hrun,Dn_has fs s k hk]
 have : c = findZ (fs.take k) s:=by
  unfold findZ
  cases e : findN (fs.take k) s with
  | none => rw [e] at hc';simp only [DataW.lit.injEq,Lit.int.injEq,true_and] at hc';exact hc'.symm
  | some i => rw [e] at hc';simp only [DataW.lit.injEq,Lit.int.injEq,true_and] at hc';exact hc'.symm
 rw [this]
open Go.ChangeShapes Go.WideShapes Go.ChangeAt Go.RowKit
def nz (st : List Nat) : Nat:=st.countP fun x => decide (0 < x)
theorem nz_le (st : List Nat) : nz st ≤ st.length:=List.countP_le_length
theorem nz_set {st : List Nat} {m L : Nat} (h : st[m]? = some 0) (hL : 0 < L) : nz (st.set m L) = nz st + 1:=by
 unfold nz
 induction st generalizing m with
 | nil => cases h
 | cons x st ih =>
  cases m with
  | zero =>
   simp only [List.getElem?_cons_zero,Option.some.injEq] at h;subst h;simp [hL]
  | succ m =>
   have:=ih (m:=m) (by simpa using h);simp only [List.set_cons_succ,List.countP_cons,this];omega
def pos (st : List Nat) (m : Nat) : Prop:=∃ L,st[m]? = some L ∧ 0 < L
theorem pos_set {st : List Nat} {m k L : Nat} (h : pos st k) (hL : 0 < L) : pos (st.set m L) k:=by
 obtain ⟨M,h1,h2⟩:=h
 by_cases e : m = k
 ·subst e
  exact ⟨L,by rw [List.getElem?_set,if_pos rfl,if_pos (List.getElem?_eq_some_iff.1 h1).1],hL⟩
 ·exact ⟨M,by rw [List.getElem?_set,if_neg e];exact h1,h2⟩
theorem pos_here {st : List Nat} {m L : Nat} (h : m < st.length) (hL : 0 < L) : pos (st.set m L) m:=⟨L,by rw [List.getElem?_set,if_pos rfl,if_pos h],hL⟩
structure StI (s : Nat → Option Nat) (n goal : Nat) (st rch : List Nat) (a : Nat) : Prop where
 len : st.length = n
 sound : ∀ m L,st[m]? = some L → 0 < L → First s m goal L
 first : rch[0]? = some goal
 lt : ∀ r ∈ rch,r < n
 rc : ∀ (j r : Nat),0 < j → rch[j]? = some r → pos st r
 cover : ∀ m,pos st m → m ∈ rch
 looked : ∀ (j r : Nat),j < a → rch[j]? = some r → ∀ m,m < n → s m = some r → pos st m
 cnt : rch.length = 1 + nz st
 al : a ≤ rch.length
theorem StI.start {s : Nat → Option Nat} {n goal : Nat} (h : goal < n) : StI s n goal (List.replicate n 0) [goal] 0:=by
 refine ⟨by simp,?_,rfl,by simpa using h,?_,?_,fun j r hj => by omega,?_,by simp⟩
 ·intro m L h1 h2
  rw [List.getElem?_replicate] at h1
  split at h1 <;> cases h1
  omega
 ·intro j r hj h1
  rw [List.getElem?_eq_none (by simp;omega)] at h1
  cases h1
 ·rintro m ⟨L,h1,h2⟩
  rw [List.getElem?_replicate] at h1
  split at h1 <;> cases h1
  omega
 ·simp [nz,List.countP_replicate]
theorem StI.le {s : Nat → Option Nat} {n goal a : Nat} {st rch : List Nat} (h : StI s n goal st rch a) : rch.length ≤ n + 1:=by
 have:=nz_le st;have:=h.cnt;have:=h.len;omega
theorem StI.key {s : Nat → Option Nat} {n goal a r : Nat} {st rch : List Nat} (h : StI s n goal st rch a) (hr : rch[a]? = some r) (hz : a = 0 → nz st = 0) {d : Nat} (hd : st[r]? = some d) :
  ∀ m,m < n → s m = some r → st[m]? = some 0 → First s m goal (d + 1):=by
 intro m hm hs h0
 by_cases e : r = goal
 ·subst e
  by_cases ea : a = 0
  ·have hd0 : d = 0:=by
    rcases Nat.eq_zero_or_pos d with g | g
    ·exact g
    ·exfalso
     have h1:=hz ea;unfold nz at h1;rw [List.countP_eq_zero] at h1;have:=h1 d (List.mem_of_getElem? hd);simp at this;omega
   rw [hd0];exact First.one hs
  ·exfalso
   obtain ⟨L,h1,h2⟩:=h.looked 0 r (by omega) h.first m hm hs
   rw [h0] at h1
   cases h1
   omega
 ·have ha : 0 < a:=by
   rcases Nat.eq_zero_or_pos a with g | g
   ·subst g
    rw [h.first] at hr
    cases hr
    exact (e rfl).elim
   ·exact g
  obtain ⟨L,h1,h2⟩:=h.rc a r ha hr;rw [hd] at h1
  cases h1
  exact First.more hs e (h.sound r d hd h2)
theorem StI.put {s : Nat → Option Nat} {n goal a m fu : Nat} {st rch : List Nat} (h : StI s n goal st rch a) (hm : m < n) (h0 : st[m]? = some 0) (hfu : 0 < fu) (hF : First s m goal fu) : StI s n goal (st.set m fu) (rch ++ [m]) a:=by
 have hml : m < st.length:=by rw [h.len];exact hm
 refine ⟨by rw [List.length_set];exact h.len,?_,?_,?_,?_,?_,?_,?_,by have:=h.al;simp;omega⟩
 ·intro k L h1 h2
  rw [List.getElem?_set] at h1
  split at h1
  ·rename_i e
   subst e
   cases h1
   exact hF
  ·exact h.sound k L h1 h2
 ·rw [List.getElem?_append_left (by have:=(List.getElem?_eq_some_iff.1 h.first).1;exact this)]
  exact h.first
 ·intro r hr
  rcases List.mem_append.1 hr with g | g
  ·exact h.lt r g
  ·simp at g;omega
 ·intro j r hj hr
  by_cases hjl : j < rch.length
  ·rw [List.getElem?_append_left hjl] at hr
   exact pos_set (h.rc j r hj hr) hfu
  ·rw [List.getElem?_append_right (by omega)] at hr
   have : j - rch.length = 0:=by
    rcases Nat.eq_zero_or_pos (j - rch.length) with g | g
    ·exact g
    ·rw [List.getElem?_eq_none (by simp;omega)] at hr;cases hr
   rw [this] at hr
   cases hr
   exact pos_here hml hfu
 ·intro k hk
  by_cases e : k = m
  ·subst e;simp
  ·obtain ⟨L,h1,h2⟩:=hk
   rw [List.getElem?_set,if_neg (by omega)] at h1;exact List.mem_append.2 (.inl (h.cover k ⟨L,h1,h2⟩))
 ·intro j r hj hr k hk hs
  have hjl : j < rch.length ∨ ¬ j < rch.length:=by omega
  rcases hjl with g | g
  ·rw [List.getElem?_append_left g] at hr
   exact pos_set (h.looked j r hj hr k hk hs) hfu
  ·exfalso
   have:=h.al;omega
 ·rw [nz_set h0 hfu]
  have:=h.cnt;simp;omega
theorem StI.next {s : Nat → Option Nat} {n goal a r : Nat} {st rch : List Nat} (h : StI s n goal st rch a) (hr : rch[a]? = some r) (hl : ∀ m,m < n → s m = some r → pos st m) : StI s n goal st rch (a + 1):=by
 refine ⟨h.len,h.sound,h.first,h.lt,h.rc,h.cover,?_,h.cnt,(List.getElem?_eq_some_iff.1 hr).1⟩;intro j q hj hq m hm hs
 by_cases e : j = a
 ·subst e
  rw [hr] at hq
  cases hq
  exact hl m hm hs
 ·exact h.looked j q (by omega) hq m hm hs
theorem StI.all {s : Nat → Option Nat} {n goal : Nat} {st rch : List Nat} (h : StI s n goal st rch rch.length) (hs : ∀ m p,s m = some p → m < n) : ∀ L m,First s m goal L → pos st m:=by
 intro L
 induction L using Nat.strongRecOn with
 | _ L ih =>
  intro m f
  cases e : s m with
  | none => exact (f.no e).elim
  | some r =>
   have hin : r ∈ rch:=by
    rcases f.back e with ⟨e1,_⟩ | ⟨_,h1,g⟩
    ·subst e1
     exact List.mem_of_getElem? h.first
    ·exact h.cover r (ih (L - 1) (by omega) r g)
   obtain ⟨j,hj,e2⟩:=List.getElem_of_mem hin;exact h.looked j r hj (by rw [List.getElem?_eq_getElem hj,e2]) m (hs m r e) e
theorem First.le {nm : List (List Nat)} (ho : Oneful nm) {i j L : Nat} (f : First (sc nm) i j L) : L ≤ nm.length:=by
 have hp : ∀ t,t < L → ∃ p,it (sc nm) t i = some p ∧ p < nm.length:=by
  intro t ht;obtain ⟨p,h1,g⟩:=f.rest ht;refine ⟨p,h1,?_⟩
  cases e : sc nm p with
  | none => exact (g.no e).elim
  | some q => exact (sc_lt ho e).1
 rcases Nat.lt_or_ge nm.length L with g | g
 ·exfalso
  obtain ⟨a,b,h1,h2,h3⟩:=pigeon nm.length (fun t => (it (sc nm) t i).getD 0) (by
   intro t ht;obtain ⟨p,e,h⟩:=hp t (by omega);simp only [e,Option.getD_some]
   exact h)
  obtain ⟨p,e1,fp⟩:=f.rest (show a < L by omega);obtain ⟨q,e2,fq⟩:=f.rest (show b < L by omega);simp only [e1,e2,Option.getD_some] at h3;subst h3;have:=fp.uniq fq;omega
 ·exact g
theorem idx_any (x : Option Addr) (l : List Nat) (cx z : Nat) (w : World) (hl : l.length ≤ 4096) (hx : l ≠ [] → ∃ b q,x = some ⟨b,q,none⟩ ∧ ∀ (k y : Nat),l[k]? = some y → w.cell? ⟨b,q + k,none⟩ = some (.int .i64 (y : Int))) :
  Calls Tryz.prog 228 #[.slice x l.length cx,.int .i64 (z : Int)] w fun e w' => (∃ r : Int,e = .returned (.int .i64 r) ∧ (decide (0 ≤ r)) = l.contains z) ∧ w' = w:=by
 have HX:=hide hx;clear hx;go_enter Tryz.func228,Tryz.ntmps228;go_wp2
 go_loopw [8] (fun s W => ∃ i : Nat,s = .int .i64 (i : Int) ∧ i ≤ l.length ∧ (∀ (j y : Nat),j < i → l[j]? = some y → y ≠ z) ∧ W = w) (fun s _ => l.length - (intOf s).toNat)
 case atStart => exact ⟨0,rfl,Nat.zero_le _,fun j y hj => by omega,rfl⟩
 case round =>
  obtain ⟨i,rfl,hil,hall,hw⟩:=hrel;subst hw;have HA:=hide hall;clear hall
  by_cases h : i < l.length
  ·have i1 : (i : Int) < (l.length : Int):=by omega
   have i0 : (0 : Int) ≤ (i : Int):=Int.natCast_nonneg _;have iz : decide ((i : Int) < (l.length : Int)) = true:=dt i1;have hy : l[i]? = some l[i]:=List.getElem?_eq_getElem h;obtain ⟨b,q,rfl,hcell⟩:=zu HX (by intro e;rw [e] at h;simp at h);have hm : l[i] ∈ l:=List.getElem_mem h;generalize l[i] = y at *;have k1:=hcell i y hy;have HY:=hide hy;have HM:=hide hm;clear hcell hy hm
   by_cases hyz : y = z
   ·have hb : ((z : Int) == (y : Int)) = true:=by rw [beq_iff_eq];omega
    have HYZ:=hide hyz;clear hyz;go_wp2_with fail;go_ret;refine ⟨⟨(i : Int),rfl,?_⟩,by first | rfl | trivial⟩;rw [dt i0];symm;rw [List.contains_eq_mem,← zu HYZ];exact dt (zu HM)
   ·have hb : ((z : Int) == (y : Int)) = false:=by rw [beq_eq_false_iff_ne];omega
    have HYZ:=hide hyz;clear hyz;go_wp2_with fail;go_roundw
    case rel =>
     refine ⟨i + 1,by simp,h,?_,by first | rfl | trivial⟩;intro j k hj hk
     by_cases e : j = i
     ·subst e
      rw [zu HY] at hk
      cases hk
      exact zu HYZ
     ·exact zu HA j k (by omega) hk
    case measure => simp only [intOf];omega
  ·have i1 : ¬ (i : Int) < (l.length : Int):=by omega
   have iz : decide ((i : Int) < (l.length : Int)) = false:=df i1;go_wp2_with fail;go_ret;refine ⟨⟨-1,rfl,?_⟩,by first | rfl | trivial⟩
   have hno : z ∉ l:=by
    intro hy;obtain ⟨j,hj,e⟩:=List.getElem_of_mem hy;exact zu HA j _ (by omega) (List.getElem?_eq_getElem hj) e
   simp [hno]
theorem cont_any (x : Option Addr) (l : List Nat) (cx z : Nat) (w : World) (hl : l.length ≤ 4096) (hx : l ≠ [] → ∃ b q,x = some ⟨b,q,none⟩ ∧ ∀ (k y : Nat),l[k]? = some y → w.cell? ⟨b,q + k,none⟩ = some (.int .i64 (y : Int))) :
  Calls Tryz.prog 213 #[.slice x l.length cx,.int .i64 (z : Int)] w fun e w' => e = .returned (.bool (l.contains z)) ∧ w' = w:=by
 have H:=hide (idx_any x l cx z w hl hx);clear hx;go_enter Tryz.func213,Tryz.ntmps213;go_wp2_with fail;refine (zu H).mono ?_;rintro e W1 ⟨⟨r,rfl,hr⟩,hw1⟩;subst hw1;have HR:=hide hr;clear hr;generalize hz : decide (0 ≤ r) = b at *
 cases b
 ·have hz' : ¬ 0 ≤ r:=of_decide_eq_false hz
  go_wp2_with fail;go_ret;exact ⟨ret_bool (zu HR),rfl⟩
 ·have hz' : 0 ≤ r:=of_decide_eq_true hz
  go_wp2_with fail;go_ret;exact ⟨ret_bool (zu HR),rfl⟩
def natV (l : List Nat) : List Value:=l.map fun k : Nat => Value.int .i64 (k : Int)
theorem natV_nats (l : List Nat) : natV l = (nats l).map (Value.int .i64):=by simp [natV,nats]
theorem natV_at {l : List Nat} {i x : Nat} (h : l[i]? = some x) : (natV l)[i]? = some (.int .i64 (x : Int)):=by simp [natV,h]
theorem natV_set (l : List Nat) (i x : Nat) : (natV l).set i (.int .i64 (x : Int)) = natV (l.set i x):=by simp [natV,List.map_set]
def StAns (s : Nat → Option Nat) (n goal : Nat) (st : List Nat) : Prop:=st.length = n ∧ (∀ m L,st[m]? = some L → 0 < L → First s m goal L) ∧ ∀ m,st[m]? = some 0 → ∀ L,¬ First s m goal L
theorem stepsP_any (u : Option Addr) (n cu goal : Nat) (nm : List (List Nat)) (w : World) (hl : nm.length = n) (hn : n ≤ 4000) (hg : goal < n) (hu : NmAt w u nm) (ho : Oneful nm) :
  Calls Tryz.prog 176 #[.slice u n cu,.int .i64 (goal : Int)] w fun e w' => (∃ st,e = .returned (.slice (some ⟨w.heap.size,0,none⟩) n n) ∧ vb w' w.heap.size 3 (natV st) ∧ StAns (sc nm) n goal st) ∧ Below w.heap.size w w':=by
 obtain ⟨iI,hi,hz0,hz1,hz2⟩:=info_parts info3;have hmk:=fun W => make_vals (P:=Tryz.prog) 94 3 8 n (.int .i64 0) rfl Tryz.underlying94 info3 (by omega) (by omega) W
 have hrep : List.replicate n (Value.int .i64 0) = natV (List.replicate n 0):=by simp [natV]
 rw [hrep] at hmk;clear hrep;have HU:=hide hu;have HL:=hide hl;have HO:=hide ho;clear hu hl ho;go_enter Tryz.func176,Tryz.ntmps176;go_wp2_with fail;have HV0:=hide ((vb_new w 3 (natV (List.replicate n 0)) _ rfl).bel (ba (bfl _ _) (.cells #[.int .i64 (goal : Int)] 3)));have HB0:=hide (ba (ba (bfl w.heap.size w) (.cells (natV (List.replicate n 0)).toArray 3)) (.cells #[.int .i64 (goal : Int)] 3));have HR0:=hide ((vb_new (w.alloc (.cells (natV (List.replicate n 0)).toArray 3)) 3 (natV [goal]) _ rfl).owns (B:=w.heap.size) (n:=1) (by simp) rfl (by decide))
 simp only [World.size_alloc] at HR0;clear hmk
 go_loopg [6,7] (n + 2) (fun k v s W => ∃ (a : Nat) (st rch : List Nat),s = .int .i64 (a : Int) ∧ k = n + 2 - a ∧ StI (sc nm) n goal st rch a ∧ (a = 0 → nz st = 0) ∧ W.ownsRow w.heap.size 3 1 v rch.length (natV rch) ∧ v.ownBlock ≠ some w.heap.size ∧ vb W w.heap.size 3 (natV st) ∧ Below w.heap.size w W)
 case atStart => exact ⟨0,List.replicate n 0,[goal],rfl,rfl,StI.start hg,fun _ => by simp [nz,List.countP_replicate],zu HR0,by simp [Value.ownBlock],zu HV0,zu HB0⟩
 case round =>
  obtain ⟨a,st,rch,rfl,hgk,hsti,hz,hown,hob,hvb,hw⟩:=hrel;rename World => W1
  obtain ⟨uv,cap,rfl,_,_,hfv⟩:=own_form hown;have HST:=hide hsti;have HZ:=hide hz;have HOW:=hide hown;have HOB:=hide hob;have HV:=hide hvb;have HW:=hide hw;have HGK:=hide hgk;have hral:=hsti.al;have hrle:=hsti.le;clear hz hown hob hvb hw hgk HV0 HB0 HR0
  by_cases h : a < rch.length
  ·have a1 : (a : Int) < (rch.length : Int):=by omega
   have a0 : (0 : Int) ≤ (a : Int):=Int.natCast_nonneg _;have az : decide ((a : Int) < (rch.length : Int)) = true:=dt a1;have hra : rch[a]? = some rch[a]:=List.getElem?_eq_getElem h;have hrn:=hsti.lt _ (List.getElem_mem h);obtain ⟨gr,rfl,hgr1,hgr2,hcr⟩:=hfv (by omega);generalize rch[a] = r at *;have k1:=hcr a _ (natV_at hra);obtain ⟨d,hd⟩:=get_some hsti.len hrn;have k2:=(zu HV).cell (natV_at hd);have HKEY:=hide (hsti.key hra (zu HZ) hd);have HRA:=hide hra;have r1 : (r : Int) < (n : Int):=by omega
   have r0 : (0 : Int) ≤ (r : Int):=Int.natCast_nonneg _
   have hdn : d ≤ n:=by
    rcases Nat.eq_zero_or_pos d with g | g
    ·omega
    ·have:=(hsti.sound r d hd g).le (zu HO)
     rw [zu HL] at this;exact this
   clear hsti hcr hfv hra hd;have hdw : IntKind.i64.wrap ((d : Int) + 1) = ((d + 1 : Nat) : Int):=by rw [wrap_i (by omega) (by omega)];omega
   go_wp2_with fail;clear k1 k2 hdw
   obtain ⟨fu,hfu⟩ : ∃ fu : Nat,fu = d + 1:=⟨d + 1,rfl⟩
   rw [show (d : Int) + 1 = (fu : Int) by omega];rw [← hfu] at HKEY;have hfp : 0 < fu:=by omega
   clear hfu
   go_loopw [6,32] (fun v s W => ∃ (m : Nat) (st rch : List Nat),s = .int .i64 (m : Int) ∧ m ≤ n ∧ StI (sc nm) n goal st rch a ∧ rch[a]? = some r ∧ (∀ k,k < n → sc nm k = some r → st[k]? = some 0 → First (sc nm) k goal fu) ∧ (∀ k,k < m → sc nm k = some r → pos st k) ∧ W.ownsRow w.heap.size 3 1 v rch.length (natV rch) ∧ v.ownBlock ≠ some w.heap.size ∧ vb W w.heap.size 3 (natV st) ∧ Below w.heap.size w W) (fun _ s _ => n - (intOf s).toNat)
   case atStart => exact ⟨0,st,rch,rfl,Nat.zero_le _,zu HST,zu HRA,zu HKEY,fun k hk => by omega,zu HOW,zu HOB,zu HV,zu HW⟩
   case round =>
    clear HST HZ HOW HOB HV HW HKEY HRA hral hrle h a1 az hgr1 hgr2;obtain ⟨m,st,rch,rfl,hmn,hsti,hra,hkey,hpos,hown,hob,hvb,hw⟩:=hrel;rename World => W2
    obtain ⟨uv,cv,rfl,_,_,hfv⟩:=own_form hown;have hla : a < rch.length:=(List.getElem?_eq_some_iff.1 hra).1;have hrle:=hsti.le;have HST:=hide hsti;have HRA:=hide hra;have HKEY:=hide hkey;have HPOS:=hide hpos;have HOW:=hide hown;have HOB:=hide hob;have HV:=hide hvb;have HW:=hide hw;clear hkey hpos hown hob hvb hw
    by_cases h : m < n
    ·have m1 : (m : Int) < (n : Int):=by omega
     have m0 : (0 : Int) ≤ (m : Int):=Int.natCast_nonneg _;have mz : decide ((m : Int) < (n : Int)) = true:=dt m1;obtain ⟨gv,rfl,hgv1,hgv2,hcr⟩:=hfv (by omega);have k1:=hcr a _ (natV_at hra);have a1 : (a : Int) < (rch.length : Int):=by omega
     obtain ⟨l,hx⟩:=get_some (zu HL) h;obtain ⟨gn,on,rfl,xv,xc,hcx,hin⟩:=((zu HU).bel (zu HW)).at hx;have hll : l.length ≤ 1:=(zu HO).one l (List.mem_of_getElem? hx)
     have hsc : l.contains r = true ↔ sc nm m = some r:=by
      have hsx : sc nm m = l.head?:=by unfold sc;rw [hx];rfl
      rw [hsx]
      match l,hll with
      | [],_ => simp
      | [b],_ => simp;exact eq_comm
     have HSC:=hide hsc;have HC:=hide (cont_any xv l xc r W2 (by omega) hin);obtain ⟨x,hsx⟩:=get_some hsti.len h;have k2:=(zu HV).cell (natV_at hsx);have HX:=hide hsx;clear hsti hra hcr hfv hx hin hll hsc hsx
     by_cases hx0 : x = 0
     ·have hxb : ((x : Int) == 0) = true:=by rw [beq_iff_eq];omega
      have HX0:=hide hx0;clear hx0
      cases hlc : l.contains r
      ·rw [hlc] at HC HSC
       clear hlc;go_wp2_with fail;refine (zu HC).mono ?_;rintro e W3 ⟨rfl,hw3⟩;subst hw3;go_wp2_with fail;go_roundw
       case rel =>
        refine ⟨m + 1,st,rch,by simp,h,zu HST,zu HRA,zu HKEY,?_,zu HOW,zu HOB,zu HV,zu HW⟩;intro k hk hs
        by_cases e : k = m
        ·subst e
         exact absurd ((zu HSC).2 hs) (by simp)
        ·exact zu HPOS k (by omega) hs
       case measure => simp only [intOf];omega
      ·rw [hlc] at HC HSC
       clear hlc;have hsm : sc nm m = some r:=(zu HSC).1 rfl;have hx00:=zu HX;rw [zu HX0] at hx00;have HF:=hide (zu HKEY m h hsm hx00);have HX00:=hide hx00;clear hsm hx00;have fz : ∀ z,W2.frozen? ⟨w.heap.size,z,none⟩ = false:=(zu HV).frozen;have HV2:=hide ((zu HV).set m (.int .i64 (fu : Int)));rw [natV_set] at HV2;have HR2:=hide (own_kept (zu HOW) (w':=W2.setCell ⟨w.heap.size,m,none⟩ (.int .i64 (fu : Int))) (fun g hg => by have h3 : g ≠ w.heap.size:=(by intro e;subst e;exact zu HOB hg);exact Below.heap_setCell _ _ _ _ h3))
       have HW2:=hide (Below.setCell (zu HW) (p:=⟨w.heap.size,m,none⟩) (Nat.le_refl _) (.int .i64 (fu : Int)));have HSZ:=hide (show (W2.setCell ⟨w.heap.size,m,none⟩ (.int .i64 (fu : Int))).heap.size = W2.heap.size by simp [World.setCell]);go_wp2_with fail;refine (zu HC).mono ?_;rintro e W3 ⟨rfl,hw3⟩;subst hw3;rename World => W2
       go_wp2_with (at_builtin;refine zu ?_)
       refine hide ?_;generalize W2.setCell ⟨w.heap.size,m,none⟩ (.int .i64 (fu : Int)) = W4 at *;clear fz k1 k2;refine wpList_append_new _ rfl _ _ 94 rfl w.heap.size 3 iI _ 1 8 Tryz.underlying94 hi hz0 hz1 hz2 rfl (by decide) _ rch.length (natV rch) rfl ((zu HR2).alloc _) _ 1 1 (natV [m]) rfl rfl (by first | exact news_cells _ _ (zu HSZ).symm | exact news_cells _ _ rfl) (by intro u hu;simp only [natV,List.map_cons,List.map_nil,List.mem_singleton] at hu;subst hu;rfl) (by unfold maxLen;omega) (by omega) (Nat.le_trans (zu HW2).size (by simp)) ?_;intro v' w1 hown' hgrow _ hnew
       have hbw : Below w.heap.size w w1:=((zu HW2).alloc (zu HW2).size _).grown hgrow (Nat.le_trans (zu HW2).size (by simp)) (fun g hg => (own_ge (zu HR2) g hg).1)
       have hob2 : v'.ownBlock ≠ some w.heap.size:=by
        intro e
        rcases hnew _ e with h1 | h1
        ·exact zu HOB h1
        ·have:=(zu HV2).lt
         simp at h1;omega
       have HV3:=hide ((zu HV2).bel ((bfl _ _).alloc (Nat.le_refl _) (.cells (natV [m]).toArray 3)));have HV4 : Hid (vb w1 w.heap.size 3 (natV (st.set m fu))):=hide ((hgrow.block _ (by have:=(zu HV2).lt;simp;omega) (by intro e;exact zu HOB e.symm)).trans (zu HV3))
       have hown2 : w1.ownsRow w.heap.size 3 1 v' (rch ++ [m]).length (natV (rch ++ [m])):=by
        rw [List.length_append];have e : natV (rch ++ [m]) = natV rch ++ natV [m]:=by simp [natV]
        rw [e];exact hown'
       have HO2:=hide hown2;have HBW:=hide hbw;clear hown' hgrow hnew hown2 hbw;go_wp2_with fail;go_roundw
       case rel =>
        refine ⟨m + 1,st.set m fu,rch ++ [m],by simp,h,(zu HST).put h (zu HX00) hfp (zu HF),?_,?_,?_,zu HO2,hob2,zu HV4,zu HBW⟩
        ·rw [List.getElem?_append_left hla]
         exact zu HRA
        ·intro k hk hs hz
         apply zu HKEY k hk hs;rw [List.getElem?_set] at hz
         split at hz
         ·rename_i e
          split at hz
          ·cases hz;omega
          ·cases hz
         ·exact hz
        ·intro k hk hs
         by_cases e : k = m
         ·subst e
          exact pos_here (by rw [(zu HST).len];exact h) hfp
         ·exact pos_set (zu HPOS k (by omega) hs) hfp
       case measure => simp only [intOf];omega
     ·have hxb : ((x : Int) == 0) = false:=by rw [beq_eq_false_iff_ne];omega
      have HX0:=hide hx0;clear hx0;go_wp2_with fail;go_roundw
      case rel =>
       refine ⟨m + 1,st,rch,by simp,h,zu HST,zu HRA,zu HKEY,?_,zu HOW,zu HOB,zu HV,zu HW⟩;intro k hk hs
       by_cases e : k = m
       ·subst e
        exact ⟨x,zu HX,by have:=zu HX0;omega⟩
       ·exact zu HPOS k (by omega) hs
      case measure => simp only [intOf];omega
    ·have m1 : ¬ (m : Int) < (n : Int):=by omega
     have mz : decide ((m : Int) < (n : Int)) = false:=df m1;clear hsti hfv hra;go_wp2_with fail
     go_roundg (n + 2 - (a + 1))
     case measure => have:=zu HGK;omega
     case rel =>
      refine ⟨a + 1,st,rch,by simp,rfl,(zu HST).next (zu HRA) (fun k hk hs => zu HPOS k (by omega) hs),fun e => by omega,zu HOW,zu HOB,zu HV,zu HW⟩
  ·have a1 : ¬ (a : Int) < (rch.length : Int):=by omega
   have az : decide ((a : Int) < (rch.length : Int)) = false:=df a1;have har : rch.length = a:=by omega
   subst har;clear hsti hfv;go_wp2_with fail;go_ret
   first
   | refine ⟨⟨st,rfl,zu HV,(zu HST).len,(zu HST).sound,?_⟩,zu HW⟩
   | refine ⟨⟨rfl,st,zu HV,(zu HST).len,(zu HST).sound,?_⟩,zu HW⟩
   intro m hm L f;obtain ⟨M,h1,h2⟩:=(zu HST).all (fun m p hp => by have:=(sc_lt (zu HO) hp).1;rw [zu HL] at this;exact this) L m f;rw [hm] at h1
   cases h1
   omega
end Go.Proofs.YtkiplmabjeadgaaGreat
