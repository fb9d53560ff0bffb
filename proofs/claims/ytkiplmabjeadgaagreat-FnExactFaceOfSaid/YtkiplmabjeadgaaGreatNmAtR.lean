/- The model's small functions of boxes and cells. -/
import Derived.Test.YtkiplmabjeadgaaGreatFdMR
import Derived.Test.YtkiplmabjeadgaaGreatBdSqR
import Derived.Test.YtkiplmabjeadgaaGreatFtMathR
namespace Go.Proofs.YtkiplmabjeadgaaGreat
set_option maxRecDepth 100000
set_option maxHeartbeats 16000000
open Go.ChangeShapes Go.WideShapes Go.ChangeAt Go.RowKit
set_option linter.unusedVariables false
set_option linter.unusedSimpArgs false
def Inn (w : World) (v : Value) (l : List Nat) : Prop:=∃ (u : Option Addr) (c : Nat),v = .slice u l.length c ∧ (l ≠ [] → ∃ g o,u = some ⟨g,o,none⟩ ∧ g < w.heap.size ∧ IntsAt w g o (nats l))
theorem Inn.bel {w w' : World} {v : Value} {l : List Nat} (h : Inn w v l) (hb : Below w.heap.size w w') : Inn w' v l:=by
 obtain ⟨u,c,rfl,h1⟩:=h;refine ⟨u,c,rfl,fun h0 => ?_⟩;obtain ⟨g,o,rfl,hg,hi⟩:=h1 h0;exact ⟨g,o,rfl,Nat.lt_of_lt_of_le hg hb.size,hi.below hb hg⟩
theorem nats_len (l : List Nat) : (nats l).length = l.length:=by simp [nats]
theorem nats_at {l : List Nat} {i x : Nat} (h : l[i]? = some x) : (nats l)[i]? = some (x : Int):=by simp [nats,h]
theorem Row.inn {w : World} {B t : Nat} {v : Value} {l : List Nat} (h : Row w B t 1 v l.length (nats l)) : Inn w v l:=by
 obtain ⟨u,c,rfl,h1⟩:=h.form;refine ⟨u,c,rfl,fun h0 => ?_⟩;obtain ⟨g,rfl,_,hg,hi⟩:=h1 (by intro e;exact h0 (List.eq_nil_of_length_eq_zero e));exact ⟨g,0,rfl,hg,hi⟩
def NmAt (w : World) (u : Option Addr) (nm : List (List Nat)) : Prop:=nm ≠ [] → ∃ g o,u = some ⟨g,o,none⟩ ∧ g < w.heap.size ∧ ∀ i l,nm[i]? = some l → ∃ v,w.cell? ⟨g,o + i,none⟩ = some v ∧ Inn w v l
theorem NmAt.bel {w w' : World} {u : Option Addr} {nm : List (List Nat)} (h : NmAt w u nm) (hb : Below w.heap.size w w') : NmAt w' u nm:=by
 intro h0;obtain ⟨g,o,rfl,hg,hi⟩:=h h0;refine ⟨g,o,rfl,Nat.lt_of_lt_of_le hg hb.size,fun i l hl => ?_⟩;obtain ⟨v,hc,hv⟩:=hi i l hl;exact ⟨v,(hb.cell (p:=⟨g,_,none⟩) hg).trans hc,hv.bel hb⟩
theorem NmAt.at {w : World} {u : Option Addr} {nm : List (List Nat)} (h : NmAt w u nm) {i : Nat} {l : List Nat} (hi : nm[i]? = some l) : ∃ g o,u = some ⟨g,o,none⟩ ∧ ∃ x c,w.cell? ⟨g,o + i,none⟩ = some (.slice x l.length c) ∧ (l ≠ [] → ∃ b q,x = some ⟨b,q,none⟩ ∧ ∀ (k y : Nat),l[k]? = some y → w.cell? ⟨b,q + k,none⟩ = some (.int .i64 (y : Int))):=by
 obtain ⟨g,o,rfl,hg,h1⟩:=h (by intro e;subst e;cases hi);obtain ⟨v,hc,x,c,rfl,hx⟩:=h1 i l hi;refine ⟨g,o,rfl,x,c,hc,fun h0 => ?_⟩;obtain ⟨b,q,rfl,hb,hI⟩:=hx h0;exact ⟨b,q,rfl,fun k y hk => hI k _ (nats_at hk)⟩
def bl (n : Nat) (o : List Nat) : List Value:=(List.range n).map fun i => Value.bool (o.contains i)
theorem bl_len (n : Nat) (o : List Nat) : (bl n o).length = n:=by simp [bl]
theorem bl_at {n : Nat} {o : List Nat} {i : Nat} (h : i < n) : (bl n o)[i]? = some (.bool (o.contains i)):=by simp [bl,h]
theorem bl_set {n : Nat} {o : List Nat} {i : Nat} (h : i < n) : (bl n o).set i (.bool true) = bl n (o ++ [i]):=by
 apply List.ext_getElem?;intro j
 by_cases hj : j < n
 ·rw [bl_at hj,List.getElem?_set]
  by_cases e : i = j
  ·subst e
   simp [h,bl_len]
  ·rw [if_neg e,bl_at hj]
   have : (o ++ [i]).contains j = o.contains j:=by
    simp only [List.contains_eq_mem,List.mem_append,List.mem_singleton,decide_eq_decide];constructor
    ·rintro (h | h)
     ·exact h
     ·exact (e h.symm).elim
    ·exact Or.inl
   rw [this]
 ·rw [List.getElem?_eq_none (by rw [List.length_set,bl_len];omega),List.getElem?_eq_none (by rw [bl_len];omega)]
theorem made_one (z : Value) (n : Nat) : madeCells #[z] n = (List.replicate n z).toArray:=by
 apply Array.ext
 ·simp [madeCells]
 ·intro i h1 h2
  have : i % 1 = 0:=Nat.mod_one i;simp [madeCells,this]
theorem make_vals {P : Program} (t e bytes n : Nat) (z : Value) (hc : z.cells = #[z]) (ht : P.underlying t = some (.slice e))
  (hi : (P.info? e).map (fun i => (i.zero,i.size,i.bytes)) = some (some z,1,bytes)) (hb : bytes * n ≤ 281474976710656) (hn : n ≤ 9223372036854775807) (W : World) :
  (Instr.makeSlice t (.int .i64 (n : Int)) (.int .i64 (n : Int))).run P W = .ok (.slice (some ⟨W.heap.size,0,none⟩) n n) (W.alloc (.cells (List.replicate n z).toArray e)):=by
 obtain ⟨i,hx,h0,h1,h2⟩:=info_parts hi
 have hb' : (i.bytes : Int) * (n : Int) ≤ 281474976710656:=by
  have h3 : ((bytes * n : Nat) : Int) ≤ 281474976710656:=by omega
  rw [h2]
  rwa [Int.natCast_mul] at h3
 have:=run_make (P:=P) W t e i z ht hx h0 .i64 .i64 n n (by omega) (by omega) hb' (by omega);rw [Int.toNat_natCast,h1,hc,Nat.mul_one,made_one] at this;exact this
theorem info4 : (Tryz.prog.info? 4).map (fun i => (i.zero,i.size,i.bytes)) = some (some (.bool false),1,1):=by kernel_rfl
theorem bl_nil (n : Nat) : bl n [] = List.replicate n (.bool false):=by
 apply List.ext_getElem?;intro j
 by_cases hj : j < n
 ·rw [bl_at hj];simp [List.getElem?_replicate,hj]
 ·rw [List.getElem?_eq_none (by rw [bl_len];omega),List.getElem?_eq_none (by simp;omega)]
def vis (s : Nat → Option Nat) (t i : Nat) : List Nat:=(List.range t).map fun u => (it s (u + 1) i).getD 0
theorem vis_len (s : Nat → Option Nat) (t i : Nat) : (vis s t i).length = t:=by simp [vis]
theorem vis_succ (s : Nat → Option Nat) (t i : Nat) : vis s (t + 1) i = vis s t i ++ [(it s (t + 1) i).getD 0]:=by simp [vis,List.range_succ]
structure Way (s : Nat → Option Nat) (n i t x : Nat) : Prop where
 last : it s t i = some x
 xlt : x < n
 away : ∀ u,0 < u → u ≤ t → it s u i ≠ some i
 nd : (vis s t i).Nodup
 lt : ∀ z ∈ vis s t i,z < n
theorem Way.all {s : Nat → Option Nat} {n i t x : Nat} (h : Way s n i t x) {u : Nat} (hu : u ≤ t) : ∃ z,it s u i = some z:=by
 cases e : it s u i with
 | some z => exact ⟨z,rfl⟩
 | none =>
  have:=it_none e hu;rw [h.last] at this
  cases this
theorem Way.start {s : Nat → Option Nat} {n i : Nat} (h : i < n) : Way s n i 0 i:=⟨rfl,h,fun u h1 h2 => by omega,by simp [vis],by simp [vis]⟩
theorem Way.le {s : Nat → Option Nat} {n i t x : Nat} (h : Way s n i t x) : t ≤ n:=by
 have:=nodup_len _ n h.nd h.lt
 rwa [vis_len] at this
theorem Way.more {s : Nat → Option Nat} {n i t x y : Nat} (h : Way s n i t x) (hs : s x = some y) (hy : y < n) (hi : y ≠ i) (hv : y ∉ vis s t i) : Way s n i (t + 1) y:=by
 have e : it s (t + 1) i = some y:=by simp [it,h.last,hs]
 refine ⟨e,hy,?_,?_,?_⟩
 ·intro u h1 h2
  by_cases g : u = t + 1
  ·subst g
   rw [e];intro k;exact hi (Option.some.inj k)
  ·exact h.away u h1 (by omega)
 ·rw [vis_succ,e,List.nodup_append]
  refine ⟨h.nd,by simp,?_⟩;intro a ha b hb;simp at hb;subst hb;intro k;subst k;exact hv ha
 ·rw [vis_succ,e]
  intro z hz
  rcases List.mem_append.1 hz with g | g
  ·exact h.lt z g
  ·simp at g;omega
theorem Way.visS {s : Nat → Option Nat} {n i t x y : Nat} (h : Way s n i t x) (hs : s x = some y) : vis s (t + 1) i = vis s t i ++ [y]:=by
 rw [vis_succ];simp [it,h.last,hs]
theorem Way.pathS {s : Nat → Option Nat} {n i t x y : Nat} (h : Way s n i t x) (hs : s x = some y) : path s (t + 2) i = path s (t + 1) i ++ [y]:=by
 show path s (t + 1) i ++ _ = _
 simp [it,h.last,hs]
theorem Way.lastOf {s : Nat → Option Nat} {n i t x : Nat} (h : Way s n i t x) : (path s (t + 1) i)[t]? = some x:=by
 show (path s t i ++ _)[t]? = _
 rw [List.getElem?_append_right (by rw [path_len];omega),path_len,Nat.sub_self,h.last];rfl
theorem Way.back {s : Nat → Option Nat} {n i t x : Nat} (h : Way s n i t x) (hs : s x = some i) : Cyc s i (path s (t + 1) i) :=
 .inl ⟨t + 1,⟨by omega,by simp [it,h.last,hs],fun u h1 h2 => h.away u h1 (by omega)⟩,rfl⟩
theorem Way.stop {s : Nat → Option Nat} {n i t x : Nat} (h : Way s n i t x) (hs : ∀ y,s x = some y → y ≠ i ∧ y ∈ vis s t i) : Cyc s i []:=by
 refine .inr ⟨?_,rfl⟩;intro L f
 have key : ∀ L,0 < L → ∀ z,it s L i = some z → z ∈ vis s t i ∨ (t = 0 ∧ False):=by
  intro L
  induction L with
  | zero => intro h0;omega
  | succ L ih =>
   intro _ z hz
   by_cases hL : L + 1 ≤ t
   ·left
    unfold vis;rw [List.mem_map];exact ⟨L,by simp;omega,by simp [hz]⟩
   ·by_cases h0 : L = t
    ·subst h0
     rw [it,h.last] at hz;exact .inl (hs z hz).2
    ·have hL2 : 0 < L:=by omega
     rw [it] at hz
     cases e : it s L i with
     | none => rw [e] at hz;cases hz
     | some a =>
      rw [e] at hz
      rcases ih hL2 a e with g | ⟨_,g⟩
      ·unfold vis at g
       rw [List.mem_map] at g;obtain ⟨u,hu,hg⟩:=g;have hu' : u < t:=by simpa using hu
       obtain ⟨b,hb⟩:=h.all (u:=u + 1) (by omega);rw [hb] at hg;simp only [Option.getD_some] at hg;subst hg
       by_cases hut : u + 1 = t
       ·subst hut
        rw [h.last] at hb
        cases hb
        exact .inl (hs z hz).2
       ·left
        unfold vis;rw [List.mem_map];refine ⟨u + 1,by simp;omega,?_⟩;simp only [it] at hb ⊢;rw [hb];have hz' : s b = some z:=hz;simp [hz']
      ·exact g.elim
 rcases key L f.1 i f.2.1 with g | ⟨_,g⟩
 ·unfold vis at g
  rw [List.mem_map] at g;obtain ⟨u,hu,hg⟩:=g;have hu' : u < t:=by simpa using hu
  obtain ⟨b,hb⟩:=h.all (u:=u + 1) (by omega);rw [hb] at hg;simp only [Option.getD_some] at hg;subst hg;exact h.away (u + 1) (by omega) (by omega) hb
 ·exact g
theorem wo_next {nm : List (List Nat)} (h : (ord nm).length = nm.length) {m : Nat} (hm : m < nm.length) (hl : (wo nm m).length = m) : ∃ i,ff nm (wo nm m) = some i:=by
 cases e : ff nm (wo nm m) with
 | some i => exact ⟨i,rfl⟩
 | none =>
  rw [ord_of e (by omega)] at h;omega
theorem all_take {l : List Nat} {k y : Nat} (h : l[k]? = some y) (P : Nat → Bool) : (l.take (k + 1)).all P = ((l.take k).all P && P y):=by
 rw [List.take_add_one,h];simp
theorem orderM_any (u : Option Addr) (n cu : Nat) (nm : List (List Nat)) (w : World) (hl : nm.length = n) (hn : n ≤ 4096) (hu : NmAt w u nm) (hlt : ∀ l ∈ nm,l.length ≤ 4096 ∧ ∀ x ∈ l,x < n) (ho : (ord nm).length = nm.length) :
  Calls Tryz.prog 76 #[.slice u n cu] w fun e w' => ∃ v,e = .returned v ∧ Row w' w.heap.size 3 1 v n (nats (ord nm)) ∧ Below w.heap.size w w':=by
 obtain ⟨i0,hi,hz0,hz1,hz2⟩:=info_parts info3;have hmk:=fun W => make_vals (P:=Tryz.prog) 95 4 1 n (.bool false) rfl Tryz.underlying95 info4 (by omega) (by omega) W
 have HU:=hide hu;have HL:=hide hl;have HT:=hide hlt;have HO:=hide ho;clear hu hl hlt ho;rw [← bl_nil] at hmk;go_enter Tryz.func76,Tryz.ntmps76;go_wp2_with fail;have HR0:=hide ((row_made w 3 w.heap.size 1 (Nat.le_refl _) _ rfl).below (ba (bfl _ _) (.cells (bl n []).toArray 4)));have HV0:=hide (vb_new (w.alloc (.cells #[] 3)) 4 (bl n []) _ rfl);have HB0:=hide (ba (ba (bfl w.heap.size w) (.cells #[] 3)) (.cells (bl n []).toArray 4));simp only [World.size_alloc] at HV0;clear hmk
 go_loopw [3] (fun v W => ∃ m : Nat,m ≤ n ∧ (wo nm m).length = m ∧ Row W w.heap.size 3 1 v m (nats (wo nm m)) ∧ v.ownBlock ≠ some (w.heap.size + 1) ∧ vb W (w.heap.size + 1) 4 (bl n (wo nm m)) ∧ Below w.heap.size w W) (fun v _ => n - (match v with | .slice _ k _ => k | _ => 0))
 case atStart => exact ⟨0,Nat.zero_le _,rfl,zu HR0,by simp [Value.ownBlock],zu HV0,zu HB0⟩
 case round =>
  obtain ⟨m,hm,hml,hrow,hob,hvb,hw⟩:=hrel
  obtain ⟨uv,cap,rfl,hcap⟩ : ∃ (uv : Option Addr) (cap : Nat),_ = Value.slice uv m cap ∧ True:=by
   obtain ⟨a,b,e,_⟩:=hrow.form;exact ⟨a,b,e,trivial⟩
  have HR:=hide hrow;have HV:=hide hvb;have HW:=hide hw;have HOB:=hide hob;have HML:=hide hml;have HU1:=hide ((zu HU).bel hw);clear hrow hvb hw hob hml hcap HR0 HV0 HB0
  by_cases h : m < n
  ·have m1 : (m : Int) < (n : Int):=by omega
   have mz : decide ((m : Int) < (n : Int)) = true:=dt m1;obtain ⟨q,hq⟩:=wo_next (zu HO) (by rw [zu HL];exact h) (zu HML);obtain ⟨q1,q2,q3,q4⟩:=ff_some hq;rw [zu HL] at q1;have Q2:=hide q2;have Q3:=hide q3;have Q4:=hide q4;have HQ:=hide hq;clear q2 q3 q4 hq;generalize ho : wo nm m = o at *;have HO2:=hide ho;clear ho;go_wp2_with fail;rename World => W1
   go_loopw [3,5] (fun z s W => z = .slice uv m cap ∧ ∃ i : Nat,s = .int .i64 (i : Int) ∧ i ≤ q ∧ W = W1) (fun _ s _ => n - (intOf s).toNat)
   case atStart => exact ⟨rfl,0,rfl,Nat.zero_le _,rfl⟩
   case round =>
    obtain ⟨rfl,i,rfl,hiq,hww⟩:=hrel;subst hww;have j1 : (i : Int) < (n : Int):=by omega
    have j0 : (0 : Int) ≤ (i : Int):=Int.natCast_nonneg _;have jz : decide ((i : Int) < (n : Int)) = true:=dt j1;obtain ⟨l,hx⟩:=get_some (zu HL) (show i < n by omega);obtain ⟨g,go,rfl,x,c,hc,hin⟩:=(zu HU1).at hx;have d0:=(zu HV).cell (bl_at (show i < n by omega));have HIN:=hide hin;have HLX:=hide (zu HT l (List.mem_of_getElem? hx))
    have hrd : rdy nm o i = (!o.contains i && l.all fun p => o.contains p):=by
     unfold rdy;rw [List.getD_eq_getElem?_getD,hx];rfl
    have HRD:=hide hrd;have hlen:=(zu HT l (List.mem_of_getElem? hx)).1;clear hin hx hrd;generalize hb0 : o.contains i = b0 at *;have HB0:=hide hb0;clear hb0;go_wp2_with fail;rename World => W1
    go_loopw [6,7] (fun r k W => ∃ j : Nat,k = .int .i64 (j : Int) ∧ j ≤ l.length ∧ r = .bool (!b0 && (l.take j).all fun p => o.contains p) ∧ W = W1) (fun _ k _ => l.length - (intOf k).toNat)
    case atStart => exact ⟨0,rfl,Nat.zero_le _,by simp,rfl⟩
    case round =>
     obtain ⟨j,rfl,hj,hr,hww⟩:=hrel;subst hww;subst hr;rename World => W1
     by_cases hjl : j < l.length
     ·have t1 : (j : Int) < (l.length : Int):=by omega
      have t0 : (0 : Int) ≤ (j : Int):=Int.natCast_nonneg _;have tz : decide ((j : Int) < (l.length : Int)) = true:=dt t1;have hy : l[j]? = some l[j]:=List.getElem?_eq_getElem hjl;obtain ⟨b,qo,rfl,hcell⟩:=zu HIN (by intro e;rw [e] at hjl;simp at hjl);have hyl : l[j] < n:=(zu HLX).2 _ (List.getElem_mem hjl);have hat:=all_take hy (fun p => o.contains p);have HAT:=hide hat;clear hat;generalize l[j] = y at *;have k1:=hcell j y hy;have d1:=(zu HV).cell (bl_at hyl);have y1 : (y : Int) < (n : Int):=by omega
      have y0 : (0 : Int) ≤ (y : Int):=Int.natCast_nonneg _;clear hcell hy;generalize hrr : (!b0 && (l.take j).all fun p => o.contains p) = rr at *;generalize hby : o.contains y = by' at *
      have HBY:=hide hby
      have HRR:=hide hrr;clear hby hrr
      cases rr
      ·go_wp2_with fail
       go_roundw
       case rel =>
        refine ⟨j + 1,by simp,hjl,?_,by first | rfl | trivial⟩;rw [zu HAT,← Bool.and_assoc,zu HRR]
        first | rfl | simp
       case measure => simp only [intOf];omega
      ·go_wp2_with fail
       go_roundw
       case rel =>
        refine ⟨j + 1,by simp,hjl,?_,by first | rfl | trivial⟩;rw [zu HAT,← Bool.and_assoc,zu HRR]
        first | rfl | simp
       case measure => simp only [intOf];omega
     ·have t1 : ¬ (j : Int) < (l.length : Int):=by omega
      have tz : decide ((j : Int) < (l.length : Int)) = false:=df t1;have hjl' : l.take j = l:=List.take_of_length_le (by omega);rw [hjl'];have hrd:=zu HRD;generalize hrr : (!b0 && l.all fun p => o.contains p) = rr at *
      by_cases hq2 : i = q
      ·have hrt : rr = true:=by
        rw [← hrd,hq2];have:=zu HQ;unfold ff at this;rw [List.find?_range_eq_some] at this;exact this.1
       subst hrt;subst hq2;have fz : ∀ z,W1.frozen? ⟨w.heap.size + 1,z,none⟩ = false:=(zu HV).frozen;have HV2:=hide ((zu HV).set i (.bool true));rw [bl_set (by omega)] at HV2;have HR2:=hide ((zu HR).kept' (w':=W1.setCell ⟨w.heap.size + 1,i,none⟩ (.bool true)) (fun g hg => Below.heap_setCell _ _ _ _ (by intro e;subst e;exact zu HOB hg)));have HW2:=hide (Below.setCell (zu HW) (p:=⟨w.heap.size + 1,i,none⟩) (by simp) (.bool true));have HU2:=hide HU1;clear hrd hrr hjl'
       go_wp2_with (at_builtin;refine zu ?_)
       refine hide ?_;have HSZ:=hide (show (W1.setCell ⟨w.heap.size + 1,i,none⟩ (.bool true)).heap.size = W1.heap.size by simp [World.setCell]);generalize W1.setCell ⟨w.heap.size + 1,i,none⟩ (.bool true) = W2 at *;refine wpList_append_new _ rfl _ _ 94 rfl w.heap.size 3 i0 _ 1 8 Tryz.underlying94 hi hz0 hz1 hz2 rfl (by decide) _ _ _ rfl ((zu HR2).alloc _) _ 1 1 ([(i : Int)].map (Value.int .i64)) rfl rfl (by first | exact news_cells _ _ (zu HSZ).symm | exact news_cells _ _ rfl) ints_one (by unfold maxLen;omega) (by omega) (Nat.le_trans (zu HW2).size (by simp)) ?_
       intro v' w1 hown' hgrow _ hnew;have R:=hide (own_more (wr:=W2) (news:=[(i : Int)]) ((bfl w.heap.size W2).alloc (zu HW2).size _) (Nat.le_trans (zu HW2).size (by simp)) (zu HR2) hown' hgrow)
       have hob2 : v'.ownBlock ≠ some (w.heap.size + 1):=by
        intro e
        rcases hnew _ e with h1 | h1
        ·exact zu HOB h1
        ·have:=(zu HV2).lt
         simp at h1;omega
       have HV3:=hide ((zu HV2).bel ((bfl _ _).alloc (Nat.le_refl _) (.cells #[.int .i64 (i : Int)] 3)));have HV4 : Hid (vb w1 (w.heap.size + 1) 4 (bl n (o ++ [i]))):=hide ((hgrow.block _ (by have:=(zu HV2).lt;simp;omega) (by intro e;exact zu HOB e.symm)).trans (zu HV3));clear hown' hgrow hnew;go_wp2_with fail;obtain ⟨uv',cap',rfl,_⟩:=(zu R).1.form;go_roundw
       case rel =>
        refine ⟨m + 1,by omega,?_,?_,hob2,?_,(zu HW2).trans ((zu R).2)⟩
        ·rw [wo_some (by rw [zu HO2];exact zu HQ),zu HO2]
         simp [zu HML]
        ·rw [wo_some (by rw [zu HO2];exact zu HQ),zu HO2]
         have:=(zu R).1
         simpa [nats] using this
        ·rw [wo_some (by rw [zu HO2];exact zu HQ),zu HO2]
         exact zu HV4
       case measure => simp only;omega
      ·have hrf : rr = false:=by rw [← hrd];exact zu Q4 i (by omega)
       subst hrf;clear hrd hrr hjl';go_wp2_with fail;go_roundw
       case rel => exact ⟨rfl,i + 1,by simp,by omega,by first | rfl | trivial⟩
       case measure => simp only [intOf];omega
  ·have m1 : ¬ (m : Int) < (n : Int):=by omega
   have mz : decide ((m : Int) < (n : Int)) = false:=df m1;have en : m = n:=by omega
   subst en;go_wp2_with fail;go_ret;refine ⟨_,rfl,?_,zu HW⟩;have h1:=zu HR;unfold ord;rw [zu HL];exact h1
theorem clo_any (y c g n : Nat) (o : List Nat) (w : World) (hy : y < n) (hc : w.cell? ⟨c,0,none⟩ = some (.slice (some ⟨g,0,none⟩) n n)) (hv : vb w g 4 (bl n o)) :
  Calls Tryz.prog 212 #[.int .i64 (y : Int),.pointer (some ⟨c,0,none⟩)] w fun e w' => e = .returned (.bool (!o.contains y)) ∧ w' = w:=by
 have d:=hv.cell (bl_at hy);have y1 : (y : Int) < (n : Int):=by omega
 have y0 : (0 : Int) ≤ (y : Int):=Int.natCast_nonneg _;clear hv hy;generalize o.contains y = b at *;go_enter Tryz.func212,Tryz.ntmps212;go_wp2;go_ret;exact ⟨rfl,rfl⟩
theorem idxf_any (x : Option Addr) (l : List Nat) (cx c g n : Nat) (o : List Nat) (w : World) (hl : l.length ≤ 4096) (hx : l ≠ [] → ∃ b q,x = some ⟨b,q,none⟩ ∧ ∀ (k y : Nat),l[k]? = some y → w.cell? ⟨b,q + k,none⟩ = some (.int .i64 (y : Int))) (hlt : ∀ y ∈ l,y < n)
  (hc : w.cell? ⟨c,0,none⟩ = some (.slice (some ⟨g,0,none⟩) n n)) (hv : vb w g 4 (bl n o)) :
  Calls Tryz.prog 227 #[.slice x l.length cx,.func (.func 212) #[] #[.pointer (some ⟨c,0,none⟩)]] w fun e w' => (∃ r : Int,e = .returned (.int .i64 r) ∧ (decide (0 ≤ r)) = (l.any fun y => !o.contains y)) ∧ w' = w:=by
 have HX:=hide hx;have HT:=hide hlt;have HCL:=hide (fun y (hy : y < n) => clo_any y c g n o w hy hc hv);clear hx hlt hc hv;go_enter Tryz.func227,Tryz.ntmps227;go_wp2
 go_loopw [8] (fun s W => ∃ i : Nat,s = .int .i64 (i : Int) ∧ i ≤ l.length ∧ (∀ (j y : Nat),j < i → l[j]? = some y → o.contains y = true) ∧ W = w) (fun s _ => l.length - (intOf s).toNat)
 case atStart => exact ⟨0,rfl,Nat.zero_le _,fun j y hj => by omega,rfl⟩
 case round =>
  obtain ⟨i,rfl,hil,hall,hw⟩:=hrel;subst hw;have HA:=hide hall;clear hall
  by_cases h : i < l.length
  ·have i1 : (i : Int) < (l.length : Int):=by omega
   have i0 : (0 : Int) ≤ (i : Int):=Int.natCast_nonneg _;have iz : decide ((i : Int) < (l.length : Int)) = true:=dt i1;have hy : l[i]? = some l[i]:=List.getElem?_eq_getElem h;obtain ⟨b,q,rfl,hcell⟩:=zu HX (by intro e;rw [e] at h;simp at h);have hyn:=zu HT _ (List.getElem_mem h);have hm : l[i] ∈ l:=List.getElem_mem h;generalize l[i] = y at *;have k1:=hcell i y hy;have HY:=hide hy;have HM:=hide hm;have HC:=hide (zu HCL y hyn);clear hcell hy hm;generalize hby : o.contains y = b2 at *
   have HBY:=hide hby
   clear hby
   go_wp2_with fail;refine (zu HC).mono ?_;rintro e W1 ⟨rfl,hw1⟩;subst hw1
   cases b2
   ·go_wp2_with fail
    go_ret;refine ⟨⟨(i : Int),rfl,?_⟩,by first | rfl | trivial⟩;rw [dt i0];symm;rw [List.any_eq_true];exact ⟨y,zu HM,by rw [zu HBY];rfl⟩
   ·go_wp2_with fail
    go_roundw
    case rel =>
     refine ⟨i + 1,by simp,h,?_,by first | rfl | trivial⟩;intro j z hj hz
     by_cases e : j = i
     ·subst e
      rw [zu HY] at hz
      cases hz
      exact zu HBY
     ·exact zu HA j z (by omega) hz
    case measure => simp only [intOf];omega
  ·have i1 : ¬ (i : Int) < (l.length : Int):=by omega
   have iz : decide ((i : Int) < (l.length : Int)) = false:=df i1;go_wp2_with fail;go_ret;refine ⟨⟨-1,rfl,?_⟩,by first | rfl | trivial⟩;rw [df (by omega)];symm;rw [List.any_eq_false];intro y hy;obtain ⟨j,hj,rfl⟩:=List.getElem_of_mem hy;have hc2:=zu HA j _ (by omega) (List.getElem?_eq_getElem hj)
   first
   | (rw [hc2];simp;done)
   | (simp only [List.contains_eq_mem] at hc2;rw [hc2];simp)
theorem contf_any (x : Option Addr) (l : List Nat) (cx c g n : Nat) (o : List Nat) (w : World) (hl : l.length ≤ 4096) (hx : l ≠ [] → ∃ b q,x = some ⟨b,q,none⟩ ∧ ∀ (k y : Nat),l[k]? = some y → w.cell? ⟨b,q + k,none⟩ = some (.int .i64 (y : Int))) (hlt : ∀ y ∈ l,y < n)
  (hc : w.cell? ⟨c,0,none⟩ = some (.slice (some ⟨g,0,none⟩) n n)) (hv : vb w g 4 (bl n o)) :
  Calls Tryz.prog 211 #[.slice x l.length cx,.func (.func 212) #[] #[.pointer (some ⟨c,0,none⟩)]] w fun e w' => e = .returned (.bool (l.any fun y => !o.contains y)) ∧ w' = w:=by
 have H:=hide (idxf_any x l cx c g n o w hl hx hlt hc hv);clear hx hlt hc hv;go_enter Tryz.func211,Tryz.ntmps211;go_wp2_with fail;refine (zu H).mono ?_;rintro e W1 ⟨⟨r,rfl,hr⟩,hw1⟩;subst hw1;have HR:=hide hr;clear hr;generalize hz : decide (0 ≤ r) = z at *
 cases z
 ·have hz' : ¬ 0 ≤ r:=of_decide_eq_false hz
  go_wp2_with fail;go_ret;exact ⟨ret_bool (zu HR),rfl⟩
 ·have hz' : 0 ≤ r:=of_decide_eq_true hz
  go_wp2_with fail;go_ret;exact ⟨ret_bool (zu HR),rfl⟩
def ffI (nm : List (List Nat)) (o : List Nat) : Int:=match ff nm o with | some i => (i : Int) | none => -1
theorem all_any (l : List Nat) (o : List Nat) : (l.all fun p => o.contains p) = !(l.any fun y => !o.contains y):=by
 induction l with
 | nil => rfl
 | cons a l ih => simp only [List.all_cons,List.any_cons,ih];cases o.contains a <;> simp
theorem ffP_any (u : Option Addr) (n cu g : Nat) (nm : List (List Nat)) (o : List Nat) (w : World) (hl : nm.length = n) (hn : n ≤ 4096) (hu : NmAt w u nm) (hlt : ∀ l ∈ nm,l.length ≤ 4096 ∧ ∀ x ∈ l,x < n) (hv : vb w g 4 (bl n o)) :
  Calls Tryz.prog 175 #[.slice u n cu,.slice (some ⟨g,0,none⟩) n n] w fun e w' => e = .returned (.int .i64 (ffI nm o)) ∧ Below w.heap.size w w':=by
 have HU:=hide (hu.bel (ba (bfl w.heap.size w) (.cells #[.slice (some ⟨g,0,none⟩) n n] 95)));have HL:=hide hl;have HT:=hide hlt;have HV:=hide (hv.bel (ba (bfl w.heap.size w) (.cells #[.slice (some ⟨g,0,none⟩) n n] 95)));have HB:=hide (ba (bfl w.heap.size w) (.cells #[.slice (some ⟨g,0,none⟩) n n] 95));have hc : (w.alloc (.cells #[.slice (some ⟨g,0,none⟩) n n] 95)).cell? ⟨w.heap.size,0,none⟩ = some (.slice (some ⟨g,0,none⟩) n n):=by simp [go_sem]
 clear hu hl hlt hv;go_enter Tryz.func175,Tryz.ntmps175;go_wp2_with fail;generalize w.alloc (.cells #[.slice (some ⟨g,0,none⟩) n n] 95) = W1 at *
 go_loopw [10] (fun s W => ∃ i : Nat,s = .int .i64 (i : Int) ∧ i ≤ n ∧ (∀ j,j < i → rdy nm o j = false) ∧ W = W1) (fun s _ => n - (intOf s).toNat)
 case atStart => exact ⟨0,rfl,Nat.zero_le _,fun j hj => by omega,rfl⟩
 case round =>
  obtain ⟨i,rfl,hil,hall,hw⟩:=hrel;subst hw;rename World => W1
  have HA:=hide hall;clear hall
  by_cases h : i < n
  ·have i1 : (i : Int) < (n : Int):=by omega
   have i0 : (0 : Int) ≤ (i : Int):=Int.natCast_nonneg _;have iz : decide ((i : Int) < (n : Int)) = true:=dt i1;obtain ⟨l,hx⟩:=get_some (zu HL) h;obtain ⟨gn,on,rfl,xv,xc,hcx,hin⟩:=(zu HU).at hx;have d0:=(zu HV).cell (bl_at h);have hlt:=zu HT l (List.mem_of_getElem? hx);have HC:=hide (contf_any xv l xc w.heap.size g n o W1 hlt.1 hin hlt.2 hc (zu HV))
   have hrd : rdy nm o i = (!o.contains i && !(l.any fun y => !o.contains y)):=by
    unfold rdy;rw [List.getD_eq_getElem?_getD,hx,Option.getD_some,all_any]
   have HRD:=hide hrd;clear hin hx hrd hlt;generalize o.contains i = b0 at *;generalize (l.any fun y => !o.contains y) = b1 at *;go_wp2_with fail;refine (zu HC).mono ?_;rintro e W2 ⟨rfl,hw1⟩;subst hw1
   cases b0
   ·cases b1
    ·go_wp2_with fail
     go_ret;refine ⟨ret_int ?_,zu HB⟩;unfold ffI;rw [ff_of (by rw [zu HL];exact h) (zu HRD) (zu HA)]
    ·go_wp2_with fail
     go_roundw
     case rel =>
      refine ⟨i + 1,by simp,h,?_,by first | rfl | trivial⟩;intro j hj
      by_cases e : j = i
      ·rw [e];exact zu HRD
      ·exact zu HA j (by omega)
     case measure => simp only [intOf];omega
   ·go_wp2_with fail
    go_roundw
    case rel =>
     refine ⟨i + 1,by simp,h,?_,by first | rfl | trivial⟩;intro j hj
     by_cases e : j = i
     ·rw [e];exact zu HRD
     ·exact zu HA j (by omega)
    case measure => simp only [intOf];omega
  ·have i1 : ¬ (i : Int) < (n : Int):=by omega
   have iz : decide ((i : Int) < (n : Int)) = false:=df i1;go_wp2_with fail;go_ret;refine ⟨ret_int ?_,zu HB⟩;unfold ffI;rw [ff_no (fun j hj => zu HA j (by rw [zu HL] at hj;omega))]
theorem mAt_any (x y z : Nat) (w : World) (hx : x ≤ 1000) (hy : y ≤ 1000) (hz : z ≤ 1000) : Calls Tryz.prog 57 #[.int .i64 (x : Int),.int .i64 (y : Int),.int .i64 (z : Int)] w fun e w' => e = .returned (.int .i64 ((at3 x y z : Nat) : Int)) ∧ w' = w:=by
 have w1 : IntKind.i64.wrap ((z : Int) * 24) = (z : Int) * 24:=wrap_i (by omega) (by omega);have w2 : IntKind.i64.wrap ((z : Int) * 24 + y) = (z : Int) * 24 + y:=wrap_i (by omega) (by omega);have w3 : IntKind.i64.wrap (((z : Int) * 24 + y) * 24) = ((z : Int) * 24 + y) * 24:=wrap_i (by omega) (by omega);have w4 : IntKind.i64.wrap (((z : Int) * 24 + y) * 24 + x) = ((z : Int) * 24 + y) * 24 + x:=wrap_i (by omega) (by omega);go_enter Tryz.func57,Tryz.ntmps57;go_wp2_with fail;go_ret;exact ⟨ret_int (by unfold at3;omega),rfl⟩
theorem mMoved_any (b : Bx) (x y z : Int) (w : World) (hb : bxS 1000 b) (hx : -1000 ≤ x ∧ x ≤ 1000) (hy : -1000 ≤ y ∧ y ≤ 1000) (hz : -1000 ≤ z ∧ z ≤ 1000) : Calls Tryz.prog 109 #[bxv b,.int .i64 x,.int .i64 y,.int .i64 z] w fun e w' => e = .returned (bxv (mvB b x y z)) ∧ Below w.heap.size w w':=by
 obtain ⟨h1,h2,h3,h4,h5,h6⟩:=hb;have w1 : IntKind.i64.wrap (b.x0 + x) = b.x0 + x:=wrap_i (by omega) (by omega);have w2 : IntKind.i64.wrap (b.y0 + y) = b.y0 + y:=wrap_i (by omega) (by omega);have w3 : IntKind.i64.wrap (b.z0 + z) = b.z0 + z:=wrap_i (by omega) (by omega);have w4 : IntKind.i64.wrap (b.x1 + x) = b.x1 + x:=wrap_i (by omega) (by omega);have w5 : IntKind.i64.wrap (b.y1 + y) = b.y1 + y:=wrap_i (by omega) (by omega);have w6 : IntKind.i64.wrap (b.z1 + z) = b.z1 + z:=wrap_i (by omega) (by omega);clear h1 h2 h3 h4 h5 h6 hx hy hz;unfold bxv mvB;simp only
 generalize b.x0 = x0 at *;generalize b.y0 = y0 at *;generalize b.z0 = z0 at *;generalize b.x1 = x1 at *;generalize b.y1 = y1 at *;generalize b.z1 = z1 at *;go_enter Tryz.func109,Tryz.ntmps109;go_wp2_with fail;refine bodyPost_ret (v:=.agg #[.int .i64 (x0 + x),.int .i64 (y0 + y),.int .i64 (z0 + z),.int .i64 (x1 + x),.int .i64 (y1 + y),.int .i64 (z1 + z)]) (by simp [results,Tryz.results109,go_sem];done) rfl ?_;refine ⟨rfl,?_⟩
 repeat (first | exact bfl _ _ | refine Below.setCell ?_ (Nat.le_refl _) _ | refine Below.setCell ?_ (by simp) _ | refine ba ?_ _)
theorem mBox_any (b : Bx) (w : World) : Calls Tryz.prog 110 #[bxv b] w fun e w' => e = .returned (.bool (bxOk b)) ∧ Below w.heap.size w w':=by
 unfold bxv bxOk;generalize b.x0 = x0 at *;generalize b.y0 = y0 at *;generalize b.z0 = z0 at *;generalize b.x1 = x1 at *;generalize b.y1 = y1 at *;generalize b.z1 = z1 at *;go_enter Tryz.func110,Tryz.ntmps110;go_wp2
 all_goals
  go_ret;refine ⟨ret_bool ?_,ba (bfl _ _) _⟩
  first | (simp [*];done) | (simp;omega)
theorem mStep_any (s : Nat) (w : World) (hs : 1 ≤ s ∧ s ≤ 6) : Calls Tryz.prog 129 #[.int .i64 (s : Int)] w fun e w' => e = .returned (.tuple #[.int .i64 (stp s).1,.int .i64 (stp s).2.1,.int .i64 (stp s).2.2]) ∧ w' = w:=by
 have : s = 1 ∨ s = 2 ∨ s = 3 ∨ s = 4 ∨ s = 5 ∨ s = 6:=by omega
 rcases this with rfl | rfl | rfl | rfl | rfl | rfl
 ·go_enter Tryz.func129,Tryz.ntmps129
  go_wp2_with fail;refine bodyPost_ret (v:=.tuple #[.int .i64 (-1),.int .i64 (0),.int .i64 (0)]) (by simp [results,Tryz.results129,go_sem];done) rfl ?_;exact ⟨rfl,rfl⟩
 ·go_enter Tryz.func129,Tryz.ntmps129
  go_wp2_with fail;refine bodyPost_ret (v:=.tuple #[.int .i64 (1),.int .i64 (0),.int .i64 (0)]) (by simp [results,Tryz.results129,go_sem];done) rfl ?_;exact ⟨rfl,rfl⟩
 ·go_enter Tryz.func129,Tryz.ntmps129
  go_wp2_with fail;refine bodyPost_ret (v:=.tuple #[.int .i64 (0),.int .i64 (-1),.int .i64 (0)]) (by simp [results,Tryz.results129,go_sem];done) rfl ?_;exact ⟨rfl,rfl⟩
 ·go_enter Tryz.func129,Tryz.ntmps129
  go_wp2_with fail;refine bodyPost_ret (v:=.tuple #[.int .i64 (0),.int .i64 (1),.int .i64 (0)]) (by simp [results,Tryz.results129,go_sem];done) rfl ?_;exact ⟨rfl,rfl⟩
 ·go_enter Tryz.func129,Tryz.ntmps129
  go_wp2_with fail;refine bodyPost_ret (v:=.tuple #[.int .i64 (0),.int .i64 (0),.int .i64 (-1)]) (by simp [results,Tryz.results129,go_sem];done) rfl ?_;exact ⟨rfl,rfl⟩
 ·go_enter Tryz.func129,Tryz.ntmps129
  go_wp2_with fail;refine bodyPost_ret (v:=.tuple #[.int .i64 (0),.int .i64 (0),.int .i64 (1)]) (by simp [results,Tryz.results129,go_sem];done) rfl ?_;exact ⟨rfl,rfl⟩
def inS (x y z : Int) : Bool:=decide (0 ≤ x) && decide (0 ≤ y) && decide (0 ≤ z) && decide (x < 24) && decide (y < 24) && decide (z < 24)
theorem mInside_any (x y z : Int) (w : World) : Calls Tryz.prog 130 #[.int .i64 x,.int .i64 y,.int .i64 z] w fun e w' => e = .returned (.bool (inS x y z)) ∧ w' = w:=by
 unfold inS;go_enter Tryz.func130,Tryz.ntmps130;go_wp2
 all_goals
  go_ret;refine ⟨ret_bool ?_,rfl⟩
  first | (simp [*];done) | (simp;omega)
theorem mOpp_any (s : Nat) (w : World) (hs : 1 ≤ s ∧ s ≤ 6) : Calls Tryz.prog 113 #[.int .i64 (s : Int)] w fun e w' => e = .returned (.int .i64 ((opp s : Nat) : Int)) ∧ w' = w:=by
 have : s = 1 ∨ s = 2 ∨ s = 3 ∨ s = 4 ∨ s = 5 ∨ s = 6:=by omega
 rcases this with rfl | rfl | rfl | rfl | rfl | rfl
 all_goals
  go_enter Tryz.func113,Tryz.ntmps113;go_wp2_with fail;go_ret;exact ⟨rfl,rfl⟩
theorem mFlat_any (k s : Nat) (w : World) (hk : k < 13824) (hs : 1 ≤ s ∧ s ≤ 6) : Calls Tryz.prog 145 #[.int .i64 (cx k : Int),.int .i64 (cy k : Int),.int .i64 (cz k : Int),.int .i64 (s : Int)] w fun e w' => e = .returned (bxv (flt k s)) ∧ Below w.heap.size w w':=by
 have hx:=cx_lt k;have hy:=cy_lt k;have hz:=cz_lt hk;have w1 : IntKind.i64.wrap ((cx k : Int) + 1) = (cx k : Int) + 1:=wrap_i (by omega) (by omega);have w2 : IntKind.i64.wrap ((cy k : Int) + 1) = (cy k : Int) + 1:=wrap_i (by omega) (by omega);have w3 : IntKind.i64.wrap ((cz k : Int) + 1) = (cz k : Int) + 1:=wrap_i (by omega) (by omega);have : s = 1 ∨ s = 2 ∨ s = 3 ∨ s = 4 ∨ s = 5 ∨ s = 6:=by omega
 rcases this with rfl | rfl | rfl | rfl | rfl | rfl
 ·unfold bxv flt
  simp only;generalize cx k = x at *;generalize cy k = y at *;generalize cz k = z at *;go_enter Tryz.func145,Tryz.ntmps145;go_wp2_with fail;refine bodyPost_ret (v:=.agg #[.int .i64 ((x : Int)),.int .i64 ((y : Int)),.int .i64 ((z : Int)),.int .i64 ((x : Int)),.int .i64 ((y : Int) + 1),.int .i64 ((z : Int) + 1)]) (by simp [results,Tryz.results145,go_sem];done) rfl ?_;refine ⟨rfl,?_⟩
  repeat (first | exact bfl _ _ | refine Below.setCell ?_ (Nat.le_refl _) _ | refine Below.setCell ?_ (by simp) _ | refine ba ?_ _)
 ·unfold bxv flt
  simp only;generalize cx k = x at *;generalize cy k = y at *;generalize cz k = z at *;go_enter Tryz.func145,Tryz.ntmps145;go_wp2_with fail;refine bodyPost_ret (v:=.agg #[.int .i64 ((x : Int) + 1),.int .i64 ((y : Int)),.int .i64 ((z : Int)),.int .i64 ((x : Int) + 1),.int .i64 ((y : Int) + 1),.int .i64 ((z : Int) + 1)]) (by simp [results,Tryz.results145,go_sem];done) rfl ?_;refine ⟨rfl,?_⟩
  repeat (first | exact bfl _ _ | refine Below.setCell ?_ (Nat.le_refl _) _ | refine Below.setCell ?_ (by simp) _ | refine ba ?_ _)
 ·unfold bxv flt
  simp only;generalize cx k = x at *;generalize cy k = y at *;generalize cz k = z at *;go_enter Tryz.func145,Tryz.ntmps145;go_wp2_with fail;refine bodyPost_ret (v:=.agg #[.int .i64 ((x : Int)),.int .i64 ((y : Int)),.int .i64 ((z : Int)),.int .i64 ((x : Int) + 1),.int .i64 ((y : Int)),.int .i64 ((z : Int) + 1)]) (by simp [results,Tryz.results145,go_sem];done) rfl ?_;refine ⟨rfl,?_⟩
  repeat (first | exact bfl _ _ | refine Below.setCell ?_ (Nat.le_refl _) _ | refine Below.setCell ?_ (by simp) _ | refine ba ?_ _)
 ·unfold bxv flt
  simp only;generalize cx k = x at *;generalize cy k = y at *;generalize cz k = z at *;go_enter Tryz.func145,Tryz.ntmps145;go_wp2_with fail;refine bodyPost_ret (v:=.agg #[.int .i64 ((x : Int)),.int .i64 ((y : Int) + 1),.int .i64 ((z : Int)),.int .i64 ((x : Int) + 1),.int .i64 ((y : Int) + 1),.int .i64 ((z : Int) + 1)]) (by simp [results,Tryz.results145,go_sem];done) rfl ?_;refine ⟨rfl,?_⟩
  repeat (first | exact bfl _ _ | refine Below.setCell ?_ (Nat.le_refl _) _ | refine Below.setCell ?_ (by simp) _ | refine ba ?_ _)
 ·unfold bxv flt
  simp only;generalize cx k = x at *;generalize cy k = y at *;generalize cz k = z at *;go_enter Tryz.func145,Tryz.ntmps145;go_wp2_with fail;refine bodyPost_ret (v:=.agg #[.int .i64 ((x : Int)),.int .i64 ((y : Int)),.int .i64 ((z : Int)),.int .i64 ((x : Int) + 1),.int .i64 ((y : Int) + 1),.int .i64 ((z : Int))]) (by simp [results,Tryz.results145,go_sem];done) rfl ?_;refine ⟨rfl,?_⟩
  repeat (first | exact bfl _ _ | refine Below.setCell ?_ (Nat.le_refl _) _ | refine Below.setCell ?_ (by simp) _ | refine ba ?_ _)
 ·unfold bxv flt
  simp only;generalize cx k = x at *;generalize cy k = y at *;generalize cz k = z at *;go_enter Tryz.func145,Tryz.ntmps145;go_wp2_with fail;refine bodyPost_ret (v:=.agg #[.int .i64 ((x : Int)),.int .i64 ((y : Int)),.int .i64 ((z : Int) + 1),.int .i64 ((x : Int) + 1),.int .i64 ((y : Int) + 1),.int .i64 ((z : Int) + 1)]) (by simp [results,Tryz.results145,go_sem];done) rfl ?_;refine ⟨rfl,?_⟩
  repeat (first | exact bfl _ _ | refine Below.setCell ?_ (Nat.le_refl _) _ | refine Below.setCell ?_ (by simp) _ | refine ba ?_ _)
theorem nbr_in {k s : Nat} (hk : k < 13824) (hs : 1 ≤ s ∧ s ≤ 6) : inS ((cx k : Int) + (stp s).1) ((cy k : Int) + (stp s).2.1) ((cz k : Int) + (stp s).2.2) = (nbr k s).isSome ∧ ∀ m,nbr k s = some m → (cx k : Int) + (stp s).1 = cx m ∧ (cy k : Int) + (stp s).2.1 = cy m ∧ (cz k : Int) + (stp s).2.2 = cz m:=by
 have hx:=cx_lt k;have hy:=cy_lt k;have hz:=cz_lt hk;have e:=at3_c k
 have key : ∀ (p : Prop) [Decidable p] (j m : Nat),(if p then none else some j) = some m → ¬ p ∧ j = m:=by
  intro p _ j m h
  by_cases hp : p
  ·rw [if_pos hp] at h;cases h
  ·rw [if_neg hp] at h;exact ⟨hp,Option.some.inj h⟩
 have iso : ∀ (p : Prop) [Decidable p] (j : Nat),((if p then none else some j : Option Nat)).isSome = !decide p:=by
  intro p _ j
  by_cases hp : p <;> simp [hp]
 have : s = 1 ∨ s = 2 ∨ s = 3 ∨ s = 4 ∨ s = 5 ∨ s = 6:=by omega
 unfold at3 at e
 rcases this with rfl | rfl | rfl | rfl | rfl | rfl
 all_goals
  simp only [nbr,stp];refine ⟨?_,?_⟩
  ·rw [iso,Bool.eq_iff_iff]
   unfold inS;simp only [Bool.and_eq_true,decide_eq_true_eq,Bool.not_eq_true',decide_eq_false_iff_not];omega
  ·intro m hm
   obtain ⟨h1,rfl⟩:=key _ _ _ hm;simp only [cx,cy,cz] at h1 hx hy hz e ⊢;omega
end Go.Proofs.YtkiplmabjeadgaaGreat
