/- The model notes what is done: two rows of its own grow. -/
import Derived.Test.YtkiplmabjeadgaaGreatBdTdR
import Derived.Test.YtkiplmabjeadgaaGreatBdF9R
import Derived.Deep.Strs
import Derived.Test.YtkiplmabjeadgaaGreatBdFaR
import Derived.Test.YtkiplmabjeadgaaGreatScPR
import Derived.Test.YtkiplmabjeadgaaGreatBdSqR
import Derived.Test.YtkiplmabjeadgaaGreatCkMR
import Derived.Test.YtkiplmabjeadgaaGreatBpR3R
import Derived.Test.YtkiplmabjeadgaaGreatBdS22R
import Derived.Lib.MinMax
namespace Go.Proofs.YtkiplmabjeadgaaGreat
set_option maxRecDepth 100000
set_option maxHeartbeats 16000000
open Go.ChangeShapes Go.WideShapes Go.ChangeAt Go.RowKit Go.Deep
set_option linter.unusedVariables false
set_option linter.unusedSimpArgs false
theorem open_sts {H : Type} {enc : TypeId × Value → H} {w : World} {base : Nat} {spare : Nat → Bool} {held : Bool} {fuel : Nat} {cs : List Value} {x : DataW H × List MemPlace}
  (h : DataW.trod enc Tryz.prog w base spare held fuel 23 cs = some x) :
  ∃ (u : Option Addr) (n cap p po : Nat) (l : List ByteArray),cs = [.slice u n cap] ∧ n ≤ 9223372036854775807 ∧ l.length = n ∧ (∀ s ∈ l,s.size ≤ maxLen) ∧ StAt w u l:=by
 rcases open_strs Tryz.underlying23 Tryz.underlying9 cells9 h with ⟨rfl,_⟩ | ⟨a,len,cap,m,Sx,rfl,hb,hl,hm,hmm,_,hx⟩
 ·exact ⟨none,0,0,0,0,[],rfl,by omega,rfl,by simp,fun h => absurd rfl h⟩
 have hlm : len ≤ m:=by rw [hmm];split <;> omega
 refine ⟨_,len,cap,0,0,(List.range len).map Sx,rfl,?_,by simp,?_,?_⟩
 ·unfold maxLen at hm;omega
 ·intro s hs
  obtain ⟨i,hi,rfl⟩:=List.mem_map.1 hs;exact (hx i (by have:=List.mem_range.1 hi;omega)).2
 ·intro h0
  have hl0 : 0 < len:=by
   rcases Nat.eq_zero_or_pos len with e | e
   ·subst e;exact (h0 (by simp)).elim
   ·exact e
  obtain ⟨p,po,sp⟩:=a
  have hsp : sp = none:=by
   have hy:=(hx 0 (by omega)).1
   cases sp with
   | none => rfl
   | some s =>
    simp only [Addr.add,World.cell?] at hy
    split at hy <;> simp at hy
  subst hsp;refine ⟨p,po,rfl,?_,?_⟩
  ·have hy:=(hx 0 (by omega)).1
   rw [addr_add_none] at hy;exact cell_lt hy
  ·intro i s hi
   rw [List.getElem?_map] at hi;obtain ⟨j,hj,rfl⟩:=Option.map_eq_some_iff.1 hi
   have hjl:=(List.getElem?_eq_some_iff.1 hj)
   obtain ⟨hjl,ej⟩:=hjl;rw [List.getElem_range] at ej;subst ej;have hy:=(hx i (by have:=hjl;rw [List.length_range] at this;omega)).1;rw [addr_add_none] at hy;exact hy
open Go.ChangeShapes Go.WideShapes Go.ChangeAt Go.RowKit
structure Fb (f : Ft) : Prop where
 kd : f.kd = 1 ∨ f.kd = 2 ∨ f.kd = 3
 bx : bxS 24 (ftB f)
 row : f.kd = 3 → emp f.on = true ∧ emp f.ov = false ∧ 1 ≤ f.ct ∧ f.ct ≤ 8
 on : emp f.on = false → f.kd ≠ 3 ∧ 1 ≤ f.sd ∧ f.sd ≤ 6
 far : (-24 ≤ f.dx ∧ f.dx ≤ 24) ∧ (-24 ≤ f.dy ∧ f.dy ≤ 24) ∧ (-24 ≤ f.dz ∧ f.dz ≤ 24)
 ct : 0 ≤ f.ct ∧ f.ct ≤ 8
theorem ftr_fb {f : Ft} (h : ftr f = true) : Fb f:=by
 unfold ftr at h
 by_cases h1 : f.kd = 1 ∨ f.kd = 2
 ·rw [if_pos h1] at h
  simp only [Bool.and_eq_true,decide_eq_true_eq,loose,inG] at h;obtain ⟨⟨⟨h2,h3⟩,h4⟩,⟨⟨h5,h6⟩,h7⟩,h8⟩:=h;refine ⟨by omega,?_,fun e => by omega,fun e => ?_,by omega,by omega⟩
  ·show bxS 24 ⟨_,_,_,_,_,_⟩
   unfold bxS
   dsimp only
   omega
  ·rw [e] at h5
   simp only [Bool.false_eq_true,if_false,decide_eq_true_eq] at h5;omega
 ·rw [if_neg h1] at h
  by_cases h3 : f.kd = 3
  ·rw [if_pos h3] at h
   simp only [Bool.and_eq_true,decide_eq_true_eq,inG,Bool.not_eq_true'] at h;obtain ⟨_,⟨⟨⟨⟨⟨⟨a1,a2⟩,a3⟩,a4⟩,a5⟩,a6⟩,a7⟩,a8⟩:=h;refine ⟨by omega,?_,fun _ => ⟨a2,a1,by omega,by omega⟩,fun e => ?_,by omega,by omega⟩
   ·show bxS 24 ⟨_,_,_,_,_,_⟩
    unfold bxS
    dsimp only
    omega
   ·rw [a2] at e;cases e
  ·rw [if_neg h3] at h
   simp at h
theorem Fine.of_ {fs : List Ft} (h : Fine fs) {f : Ft} (hf : f ∈ fs) (h3 : f.kd = 3) : ∃ k g,findN fs f.ov = some k ∧ fs[k]? = some g ∧ ofF fs f = g ∧ g.kd ≠ 3 ∧ emp g.on = true ∧ Fb g:=by
 have hb:=ftr_fb (h.right f hf);obtain ⟨e1,e2,_⟩:=hb.row h3;have hw:=h.names f hf;unfold wrg at hw;rw [if_neg (by rw [e1];simp),if_pos e2] at hw
 cases hk : findN fs f.ov with
 | none => rw [hk] at hw;cases hw
 | some k =>
  rw [hk] at hw;obtain ⟨g,hg,_⟩:=findN_at hk;have hd : fs.getD k ft0 = g:=by rw [List.getD_eq_getElem?_getD,hg];rfl
  simp only [hd] at hw
  by_cases hc : g.kd = 3 ∨ emp g.on = false
  ·rw [if_pos hc] at hw;cases hw
  ·refine ⟨k,g,rfl,hg,?_,fun e => hc (.inl e),by cases e : emp g.on with | true => rfl | false => exact (hc (.inr e)).elim,ftr_fb (h.right g (List.mem_of_getElem? hg))⟩
   unfold ofF;rw [hk];exact hd
theorem Fine.kd {fs : List Ft} (h : Fine fs) {f : Ft} (hf : f ∈ fs) : kdF fs f = 1 ∨ kdF fs f = 2:=by
 unfold kdF
 by_cases h3 : f.kd = 3
 ·rw [if_pos h3]
  obtain ⟨k,g,_,_,e,g3,_,gb⟩:=h.of_ hf h3;rw [e];have:=gb.kd;omega
 ·rw [if_neg h3]
  have:=(ftr_fb (h.right f hf)).kd;omega
theorem bxS_mono {a b : Int} {q : Bx} (h : bxS a q) (hab : a ≤ b) : bxS b q:=by
 unfold bxS at *;omega
theorem mvB_S {a b x y z : Int} {q : Bx} (h : bxS a q) (hx : -b ≤ x ∧ x ≤ b) (hy : -b ≤ y ∧ y ≤ b) (hz : -b ≤ z ∧ z ≤ b) : bxS (a + b) (mvB q x y z):=by
 unfold bxS at *;simp only [mvB];omega
theorem mul_bnd {a b : Int} (ha : 0 ≤ a ∧ a ≤ 9) (hb : -24 ≤ b ∧ b ≤ 24) : -216 ≤ a * b ∧ a * b ≤ 216:=by
 have : a = 0 ∨ a = 1 ∨ a = 2 ∨ a = 3 ∨ a = 4 ∨ a = 5 ∨ a = 6 ∨ a = 7 ∨ a = 8 ∨ a = 9:=by omega
 rcases this with rfl | rfl | rfl | rfl | rfl | rfl | rfl | rfl | rfl | rfl <;> omega
structure Okd (fs : List Ft) (D : Bd) : Prop where
 lt : ∀ d ∈ D.done,d < fs.length
 iv : Ivt (pkt fs D.done) D.done.length D.cs
theorem Okd.zero (fs : List Ft) : Okd fs bd0:=⟨fun _ h => (List.not_mem_nil h).elim,Ivt.start _⟩
theorem pkt_old {fs : List Ft} {l : List Nat} {i n : Nat} (h1 : 1 ≤ n) (hn : n ≤ l.length) : pkt fs (l ++ [i]) n = pkt fs l n:=by
 unfold pkt
 have : (l ++ [i]).getD (n - 1) 0 = l.getD (n - 1) 0:=by
  rw [List.getD_eq_getElem?_getD,List.getD_eq_getElem?_getD,List.getElem?_append_left (by omega)]
 rw [this]
theorem pkt_new (fs : List Ft) (l : List Nat) (i : Nat) : pkt fs (l ++ [i]) (l.length + 1) = decide (kdF fs (fs.getD i ft0) = 2):=by
 unfold pkt;rw [Nat.add_sub_cancel,List.getD_eq_getElem?_getD (l:=l ++ [i]),List.getElem?_append_right (Nat.le_refl _),Nat.sub_self];simp
theorem fils_iv {pk : Nat → Bool} {m : Nat} {v : Bool} (hm : 1 ≤ m) (hv : pk m = !v) : ∀ (l : List Bx) (c : Cs),Ivt pk m c → Ivt pk m (l.foldl (fun c b => fil b v m c) c)
 | [],c,h => h
 | b :: l,c,h => fils_iv hm hv l _ (h.put b v hm hv)
theorem Okd.step {fs : List Ft} {D : Bd} (hF : Fine fs) (h : Okd fs D) {i : Nat} (hi : i < fs.length) (l : List Bx) :
  Okd fs ⟨D.done ++ [i],l.foldl (fun c b => fil b (decide (kdF fs (fs.getD i ft0) = 1)) (D.done.length + 1) c) D.cs⟩:=by
 refine ⟨fun d hd => ?_,?_⟩
 ·rcases List.mem_append.1 hd with hd | hd
  ·exact h.lt d hd
  ·rw [List.mem_singleton.1 hd];exact hi
 ·show Ivt (pkt fs (D.done ++ [i])) (D.done ++ [i]).length _
  rw [List.length_append,List.length_singleton];refine fils_iv (by omega) ?_ _ _ (h.iv.grow fun n h1 h2 => pkt_old h1 h2);rw [pkt_new];have hk:=hF.kd (f:=fs.getD i ft0) (by rw [List.getD_eq_getElem?_getD,List.getElem?_eq_getElem hi];exact List.getElem_mem hi)
  rcases hk with hk | hk <;> rw [hk] <;> rfl
theorem Okd.do_ {fs : List Ft} {D D' : Bd} (hF : Fine fs) (h : Okd fs D) {i : Nat} (hi : i < fs.length) (hd : doF fs D i = .inr D') : Okd fs D':=by
 unfold doF at hd
 cases hs : stood fs D (fs.getD i ft0) with
 | inl x => rw [hs] at hd;cases hd
 | inr l =>
  rw [hs] at hd;simp only at hd
  split at hd
  ·cases hd
  ·cases hd
   exact h.step hF hi l
def onm (fs : List Ft) (l : List Nat) : List ByteArray:=l.map fun d => (fs.getD d ft0).nm
theorem onm_len (fs : List Ft) (l : List Nat) : (onm fs l).length = l.length:=by simp [onm]
theorem onm_at {fs : List Ft} {l : List Nat} {k d : Nat} (h : l[k]? = some d) : (strs (onm fs l))[k]? = some (.string (fs.getD d ft0).nm):=by
 simp [strs,onm,h]
structure Mdm (w : World) (B : Nat) (u : Option Addr) (n cu : Nat) (fs : List Ft) (g gf gb : Nat) (ud : Option Addr) (cd : Nat) (uo : Option Addr) (co : Nat) (D : Bd) : Prop where
 blk : vb w g 97 [.slice u n cu,.slice ud D.done.length cd,.slice (some ⟨gf,0,none⟩) 13824 13824,.slice (some ⟨gb,0,none⟩) 13824 13824,.slice uo D.done.length co]
 cs : CsM w gf gb D.cs
 dn : w.ownsRow B 3 1 (.slice ud D.done.length cd) D.done.length (flatG natc D.done)
 od : w.ownsRow B 9 1 (.slice uo D.done.length co) D.done.length (strs (onm fs D.done))
theorem Mdm.bel {w w' : World} {B : Nat} {u : Option Addr} {n cu : Nat} {fs : List Ft} {g gf gb : Nat} {ud : Option Addr} {cd : Nat} {uo : Option Addr} {co : Nat} {D : Bd} (h : Mdm w B u n cu fs g gf gb ud cd uo co D) (hb : Below w.heap.size w w') : Mdm w' B u n cu fs g gf gb ud cd uo co D :=
  ⟨h.blk.bel hb,h.cs.bel hb,own_bel h.dn hb,own_bel h.od hb⟩
structure Th (g gf gb B : Nat) (w w' : World) : Prop where
 os : w'.os = w.os
 tape : w'.tape = w.tape
 output : w'.output = w.output
 size : w.heap.size ≤ w'.heap.size
 block : ∀ k,k < B → k ≠ g → k ≠ gf → k ≠ gb → w'.heap[k]? = w.heap[k]?
theorem Th.refl (g gf gb B : Nat) (w : World) : Th g gf gb B w w:=⟨rfl,rfl,rfl,Nat.le_refl _,fun _ _ _ _ _ => rfl⟩
theorem Th.trans {g gf gb B : Nat} {a b c : World} (x : Th g gf gb B a b) (y : Th g gf gb B b c) : Th g gf gb B a c :=
  ⟨y.os.trans x.os,y.tape.trans x.tape,y.output.trans x.output,Nat.le_trans x.size y.size,fun k hk h1 h2 h3 => (y.block k hk h1 h2 h3).trans (x.block k hk h1 h2 h3)⟩
theorem Th.of_bel {g gf gb B : Nat} {w w' : World} (hb : Below B w w') : Th g gf gb B w w':=⟨hb.os,hb.tape,hb.output,hb.size,fun k hk _ _ _ => hb.block k hk⟩
theorem Th.of_tw {g gf gb B : Nat} {w w' : World} (hb : Tw gf gb w w') (hB : B ≤ w.heap.size) : Th g gf gb B w w':=⟨hb.os,hb.tape,hb.output,hb.size,fun k hk _ h2 h3 => hb.block k (by omega) h2 h3⟩
theorem Th.set {g gf gb B : Nat} (w : World) (o : Nat) (v : Value) : Th g gf gb B w (w.setCell ⟨g,o,none⟩ v) :=
  ⟨rfl,rfl,rfl,by simp,fun k _ h1 _ _ => Below.heap_setCell _ _ _ _ h1⟩
theorem Th.below {g gf gb B C : Nat} {w w' : World} (x : Th g gf gb B w w') (h1 : C ≤ g) (h2 : C ≤ gf) (h3 : C ≤ gb) (hC : C ≤ B) : Below C w w':=⟨x.os,x.tape,x.output,x.size,fun k hk => x.block k (by omega) (by omega) (by omega) (by omega)⟩
theorem vb.ownsK {w : World} {B g t k : Nat} {L : List Value} (h : vb w g t L) (hB : B ≤ g) (hl : L.length = k) : w.ownsRow B t k (.slice (some ⟨g,0,none⟩) 1 1) 1 L :=
  ⟨by omega,.inr ⟨g,1,L.toArray,rfl,hB,h,Nat.le_refl _,by unfold maxLen;omega,by simp [hl],by simp [← hl]⟩⟩
theorem flt_S {k s : Nat} (hk : k < 13824) : bxS 1000 (flt k s):=by
 have h1:=cx_lt k;have h2:=cy_lt k;have h3:=cz_lt hk;unfold bxS flt
 split <;> (dsimp only;omega)
theorem tld_bx (pk : Nat → Bool) (q : Sq) : (tld pk q).bx = q.bx:=by unfold tld;split <;> rfl
theorem tlds_S (fs : List Ft) (D : Bd) : ∀ q ∈ tlds fs D,bxS 1000 q.bx:=by
 intro q hq;unfold tlds at hq;obtain ⟨q0,h0,rfl⟩:=List.mem_map.1 hq;rw [tld_bx];obtain ⟨k,s,hk,_,_,_,ha⟩:=mem_sqs h0;rw [(sqA_bx ha).2];exact flt_S hk
theorem tlds_len (fs : List Ft) (D : Bd) : (tlds fs D).length ≤ 100000:=by
 unfold tlds;rw [List.length_map];have:=sqs_len D.cs 13824;omega
theorem arn_S {m : Int} {a b : Bx} (h : bxS m a) (k : bxS m b) : bxS m (arn a b):=by
 unfold bxS arn at *
 dsimp only
 omega
theorem fold_S {m : Int} : ∀ (l : List Bx) (b : Bx),bxS m b → (∀ c ∈ l,bxS m c) → bxS m (l.foldl arn b)
 | [],b,h,_ => h
 | c :: l,b,h,hl => fold_S l (arn b c) (arn_S h (hl c (List.mem_cons_self ..))) (fun d hd => hl d (List.mem_cons_of_mem _ hd))
theorem hul_S {m : Int} {l : List Bx} (h0 : l ≠ []) (h : ∀ b ∈ l,bxS m b) : bxS m (hul l):=by
 cases l with
 | nil => exact (h0 rfl).elim
 | cons b l => exact fold_S l b (h b (List.mem_cons_self ..)) (fun c hc => h c (List.mem_cons_of_mem _ hc))
theorem ofO_S {fs : List Ft} {D : Bd} {n s : Nat} : ∀ b ∈ ofO (tlds fs D) n s,bxS 1000 b:=by
 intro b hb;obtain ⟨q,hq,rfl⟩:=ofO_mem hb;exact tlds_S fs D q hq
theorem byL_le (fs : List Ft) (l : List Nat) (s : ByteArray) : ∀ n,byL fs l s n ≤ n
 | 0 => Nat.le_refl _
 | n + 1 => by
  have:=byL_le fs l s n;unfold byL
  split <;> omega
theorem byL_yes {fs : List Ft} {l : List Nat} {s : ByteArray} {k d : Nat} (hd : l[k]? = some d) (h : ((fs.getD d ft0).nm.toList == s.toList) = true) : byL fs l s (k + 1) = k + 1:=by
 show (if _ then _ else _) = _
 rw [show l.getD k 0 = d by rw [List.getD_eq_getElem?_getD,hd];rfl,if_pos (show sEq _ _ = true from h)]
theorem byL_no {fs : List Ft} {l : List Nat} {s : ByteArray} {k d : Nat} (hd : l[k]? = some d) (h : ((fs.getD d ft0).nm.toList == s.toList) = false) : byL fs l s (k + 1) = byL fs l s k:=by
 show (if _ then _ else _) = _
 rw [show l.getD k 0 = d by rw [List.getD_eq_getElem?_getD,hd];rfl,if_neg (by unfold sEq;rw [h];simp)]
def Tls (L : List Sq) (W : World) (r : Value) : Prop:=∃ X : World,X.ownsRow 0 183 8 r L.length (flatG sqc L) ∧ Below X.heap.size X W
theorem Tls.keep {L : List Sq} {W W' : World} {r : Value} (h : Tls L W r) (hb : Below W.heap.size W W') : Tls L W' r:=by
 obtain ⟨X,h1,h2⟩:=h;exact ⟨X,h1,h2.trans (hb.mono h2.size)⟩
theorem Tls.slice {L : List Sq} {W : World} {r : Value} (h : Tls L W r) : ∃ u c p,r = .slice u L.length c ∧ SlG sqc 8 W u p 0 L:=by
 obtain ⟨X,h1,h2⟩:=h;obtain ⟨u,c,rfl,_⟩:=own_form h1;obtain ⟨p,hp⟩:=own_slG sqc_len h1 rfl;exact ⟨u,c,p,rfl,hp.bel h2⟩
theorem face_tls {L : List Sq} {W : World} {r : Value} (h : Tls L W r) (nb sd : Nat) (hn : L.length ≤ 100000) (hbx : ∀ q ∈ L,bxS 1000 q.bx) :
  Calls Tryz.prog 81 #[r,.int .i64 (nb : Int),.int .i64 (sd : Int)] W fun e w' => e = .returned (fcV sd ((ofO L nb sd).length : Int) ((pcsL (ofO L nb sd) : Nat) : Int) (hul (ofO L nb sd))) ∧ Below W.heap.size W w':=by
 obtain ⟨u,c,p,rfl,hs⟩:=h.slice;exact faceM_any u p 0 L.length c L nb sd W rfl hn hbx hs
theorem told_tls {w : World} {B : Nat} {u : Option Addr} {p po n cu : Nat} {fs : List Ft} {g gf gb : Nat} {ud : Option Addr} {cd : Nat} {uo : Option Addr} {co : Nat} {D : Bd} (hF : Fine fs) (hl : fs.length = n) (hu : SlG ftc 15 w u p po fs) (hok : Okd fs D) (hnd : D.done.length ≤ 900) (hm : Mdm w B u n cu fs g gf gb ud cd uo co D) :
  Calls Tryz.prog 79 #[.pointer (some ⟨g,0,none⟩)] w fun e w' => (∃ r,e = .returned r ∧ Tls (tlds fs D) w' r) ∧ Below w.heap.size w w':=by
 obtain ⟨pd,hpd⟩:=own_slG natc_len hm.dn rfl;refine (toldM_any g gf gb u p po n cu fs ud pd 0 _ cd D.done (.slice uo D.done.length co) 13824 13824 D.cs w hm.blk hm.cs hl (by have:=hF.len;omega) hu (fun f hf h3 => ?_) rfl hpd (fun d hd => by have:=hok.lt d hd;omega) (by omega) hok.iv.le (fun k hk hf => (hok.iv.on k hk hf).1)).mono ?_
 ·obtain ⟨k,_,hk,_⟩:=hF.of_ hf h3
  exact ⟨k,hk⟩
 ·rintro e w' ⟨⟨v,rfl,hv⟩,hb⟩
  refine ⟨⟨v,rfl,⟨w',?_,bfl _ _⟩⟩,hb⟩;have:=own_mono hv (Nat.zero_le _);unfold tlds;rw [List.length_map] at this ⊢;exact this
def plv (x y z : Int) : Value:=.agg #[.int .i64 x,.int .i64 y,.int .i64 z]
theorem cellNo_any (x y z : Nat) (w : World) (hx : x ≤ 1000) (hy : y ≤ 1000) (hz : z ≤ 1000) : Calls Tryz.prog 100 #[plv x y z] w fun e w' => e = .returned (.int .i64 (at3 x y z : Int)) ∧ Below w.heap.size w w':=by
 have w1 : IntKind.i64.wrap ((z : Int) * 24) = (z : Int) * 24:=wrap_i (by omega) (by omega);have w2 : IntKind.i64.wrap ((z : Int) * 24 + y) = (z : Int) * 24 + y:=wrap_i (by omega) (by omega);have w3 : IntKind.i64.wrap (((z : Int) * 24 + y) * 24) = ((z : Int) * 24 + y) * 24:=wrap_i (by omega) (by omega);have w4 : IntKind.i64.wrap (((z : Int) * 24 + y) * 24 + x) = ((z : Int) * 24 + y) * 24 + x:=wrap_i (by omega) (by omega);unfold plv;go_enter Tryz.func100,Tryz.ntmps100;go_wp2_with fail;go_ret;exact ⟨ret_int (by unfold at3;omega),ba (bfl _ _) _⟩
theorem whole_any (w : World) : Calls Tryz.prog 94 #[] w fun e w' => e = .returned (bxv ⟨0,0,0,24,24,24⟩) ∧ Below w.heap.size w w':=by
 unfold bxv;go_enter Tryz.func94,Tryz.ntmps94;go_wp2_with fail;refine bodyPost_ret (v:=.agg #[.int .i64 0,.int .i64 0,.int .i64 0,.int .i64 24,.int .i64 24,.int .i64 24]) (by simp [results,Tryz.results94,go_sem];done) rfl ?_;refine ⟨rfl,?_⟩
 repeat (first | exact bfl _ _ | refine Below.setCell ?_ (Nat.le_refl _) _ | refine Below.setCell ?_ (by simp) _ | refine ba ?_ _)
theorem places_any (b : Bx) (w : World) : Calls Tryz.prog 95 #[bxv b] w fun e w' => e = .returned (.func (.func 131) #[] #[.pointer (some ⟨w.heap.size,0,none⟩)]) ∧ w' = w.alloc (.cells (bxc b).toArray 41):=by
 unfold bxv;go_enter Tryz.func95,Tryz.ntmps95;go_wp2_with fail;go_ret;exact ⟨rfl,rfl⟩
theorem plus_any (x y z x' y' z' : Int) (w : World) (h : ((-1000 ≤ x ∧ x ≤ 1000) ∧ (-1000 ≤ y ∧ y ≤ 1000) ∧ (-1000 ≤ z ∧ z ≤ 1000)) ∧ ((-1000 ≤ x' ∧ x' ≤ 1000) ∧ (-1000 ≤ y' ∧ y' ≤ 1000) ∧ (-1000 ≤ z' ∧ z' ≤ 1000))) :
  Calls Tryz.prog 132 #[plv x y z,plv x' y' z'] w fun e w' => e = .returned (plv (x + x') (y + y') (z + z')) ∧ Below w.heap.size w w':=by
 have w1 : IntKind.i64.wrap (x + x') = x + x':=wrap_i (by omega) (by omega);have w2 : IntKind.i64.wrap (y + y') = y + y':=wrap_i (by omega) (by omega);have w3 : IntKind.i64.wrap (z + z') = z + z':=wrap_i (by omega) (by omega);clear h;unfold plv;go_enter Tryz.func132,Tryz.ntmps132;go_wp2_with fail;refine bodyPost_ret (v:=.agg #[.int .i64 (x + x'),.int .i64 (y + y'),.int .i64 (z + z')]) (by simp [results,Tryz.results132,go_sem];done) rfl ?_;refine ⟨rfl,?_⟩
 repeat (first | exact bfl _ _ | refine Below.setCell ?_ (Nat.le_refl _) _ | refine Below.setCell ?_ (by simp) _ | refine ba ?_ _)
theorem toward_any (s : Nat) (w : World) (hs : 1 ≤ s ∧ s ≤ 6) : Calls Tryz.prog 133 #[.int .i64 (s : Int)] w fun e w' => e = .returned (plv (stp s).1 (stp s).2.1 (stp s).2.2) ∧ Below w.heap.size w w':=by
 have : s = 1 ∨ s = 2 ∨ s = 3 ∨ s = 4 ∨ s = 5 ∨ s = 6:=by omega
 rcases this with rfl | rfl | rfl | rfl | rfl | rfl
 ·go_enter Tryz.func133,Tryz.ntmps133
  go_wp2_with fail;refine bodyPost_ret (v:=.agg #[.int .i64 (-1),.int .i64 0,.int .i64 0]) (by simp [results,Tryz.results133,go_sem];done) rfl ?_;refine ⟨rfl,?_⟩
  repeat (first | exact bfl _ _ | refine Below.setCell ?_ (Nat.le_refl _) _ | refine Below.setCell ?_ (by simp) _ | refine ba ?_ _)
 ·go_enter Tryz.func133,Tryz.ntmps133
  go_wp2_with fail;refine bodyPost_ret (v:=.agg #[.int .i64 1,.int .i64 0,.int .i64 0]) (by simp [results,Tryz.results133,go_sem];done) rfl ?_;refine ⟨rfl,?_⟩
  repeat (first | exact bfl _ _ | refine Below.setCell ?_ (Nat.le_refl _) _ | refine Below.setCell ?_ (by simp) _ | refine ba ?_ _)
 ·go_enter Tryz.func133,Tryz.ntmps133
  go_wp2_with fail;refine bodyPost_ret (v:=.agg #[.int .i64 0,.int .i64 (-1),.int .i64 0]) (by simp [results,Tryz.results133,go_sem];done) rfl ?_;refine ⟨rfl,?_⟩
  repeat (first | exact bfl _ _ | refine Below.setCell ?_ (Nat.le_refl _) _ | refine Below.setCell ?_ (by simp) _ | refine ba ?_ _)
 ·go_enter Tryz.func133,Tryz.ntmps133
  go_wp2_with fail;refine bodyPost_ret (v:=.agg #[.int .i64 0,.int .i64 1,.int .i64 0]) (by simp [results,Tryz.results133,go_sem];done) rfl ?_;refine ⟨rfl,?_⟩
  repeat (first | exact bfl _ _ | refine Below.setCell ?_ (Nat.le_refl _) _ | refine Below.setCell ?_ (by simp) _ | refine ba ?_ _)
 ·go_enter Tryz.func133,Tryz.ntmps133
  go_wp2_with fail;refine bodyPost_ret (v:=.agg #[.int .i64 0,.int .i64 0,.int .i64 (-1)]) (by simp [results,Tryz.results133,go_sem];done) rfl ?_;refine ⟨rfl,?_⟩
  repeat (first | exact bfl _ _ | refine Below.setCell ?_ (Nat.le_refl _) _ | refine Below.setCell ?_ (by simp) _ | refine ba ?_ _)
 ·go_enter Tryz.func133,Tryz.ntmps133
  go_wp2_with fail;refine bodyPost_ret (v:=.agg #[.int .i64 0,.int .i64 0,.int .i64 1]) (by simp [results,Tryz.results133,go_sem];done) rfl ?_;refine ⟨rfl,?_⟩
  repeat (first | exact bfl _ _ | refine Below.setCell ?_ (Nat.le_refl _) _ | refine Below.setCell ?_ (by simp) _ | refine ba ?_ _)
theorem oppP_any (s : Nat) (w : World) (hs : 1 ≤ s ∧ s ≤ 6) : Calls Tryz.prog 158 #[.int .i64 (s : Int)] w fun e w' => e = .returned (.int .i64 (opp s : Int)) ∧ Below w.heap.size w w':=by
 have : s = 1 ∨ s = 2 ∨ s = 3 ∨ s = 4 ∨ s = 5 ∨ s = 6:=by omega
 rcases this with rfl | rfl | rfl | rfl | rfl | rfl
 all_goals
  go_enter Tryz.func158,Tryz.ntmps158;go_wp2;go_ret;exact ⟨by first | rfl | trivial,bfl _ _⟩
theorem placeBox_any (x y z : Int) (w : World) (h : (-1000 ≤ x ∧ x ≤ 1000) ∧ (-1000 ≤ y ∧ y ≤ 1000) ∧ (-1000 ≤ z ∧ z ≤ 1000)) :
  Calls Tryz.prog 159 #[plv x y z] w fun e w' => e = .returned (bxv ⟨x,y,z,x + 1,y + 1,z + 1⟩) ∧ Below w.heap.size w w':=by
 have w1 : IntKind.i64.wrap (x + 1) = x + 1:=wrap_i (by omega) (by omega);have w2 : IntKind.i64.wrap (y + 1) = y + 1:=wrap_i (by omega) (by omega);have w3 : IntKind.i64.wrap (z + 1) = z + 1:=wrap_i (by omega) (by omega);clear h;unfold plv bxv;go_enter Tryz.func159,Tryz.ntmps159;go_wp2_with fail;refine bodyPost_ret (v:=.agg #[.int .i64 x,.int .i64 y,.int .i64 z,.int .i64 (x + 1),.int .i64 (y + 1),.int .i64 (z + 1)]) (by simp [results,Tryz.results159,go_sem];done) rfl ?_;refine ⟨rfl,?_⟩
 repeat (first | exact bfl _ _ | refine Below.setCell ?_ (Nat.le_refl _) _ | refine Below.setCell ?_ (by simp) _ | refine ba ?_ _)
def cmn (a b : Bx) : Bx:=⟨max a.x0 b.x0,max a.y0 b.y0,max a.z0 b.z0,min a.x1 b.x1,min a.y1 b.y1,min a.z1 b.z1⟩
theorem common_any (a b : Bx) (w : World) : Calls Tryz.prog 160 #[bxv a,bxv b] w fun e w' => e = .returned (bxv (cmn a b)) ∧ Below w.heap.size w w':=by
 obtain ⟨ax0,ay0,az0,ax1,ay1,az1⟩:=a;obtain ⟨bx0',by0,bz0,bx1,by1,bz1⟩:=b;unfold cmn bxv;simp only;go_enter Tryz.func160,Tryz.ntmps160;go_wp2_with fail;refine bodyPost_ret (v:=.agg #[.int .i64 (max ax0 bx0'),.int .i64 (max ay0 by0),.int .i64 (max az0 bz0),.int .i64 (min ax1 bx1),.int .i64 (min ay1 by1),.int .i64 (min az1 bz1)]) (by simp [results,Tryz.results160,go_sem];done) rfl ?_;refine ⟨rfl,?_⟩
 repeat (first | exact bfl _ _ | refine Below.setCell ?_ (Nat.le_refl _) _ | refine Below.setCell ?_ (by simp) _ | refine ba ?_ _)
def csl (c : Cs) : List Value:=fnL 27648 fun j => if j % 2 = 0 then .bool (c.full (j / 2)) else .int .i64 (c.by_ (j / 2) : Int)
theorem csl_f (c : Cs) {k : Nat} (hk : k < 13824) : (csl c)[k * 2]? = some (.bool (c.full k)):=by
 unfold csl;rw [fnL_at _ (by omega),if_pos (by omega),show k * 2 / 2 = k by omega]
theorem csl_b (c : Cs) {k : Nat} (hk : k < 13824) : (csl c)[k * 2 + 1]? = some (.int .i64 (c.by_ k : Int)):=by
 unfold csl;rw [fnL_at _ (by omega),if_neg (by omega),show (k * 2 + 1) / 2 = k by omega]
theorem csl_put (c d : Cs) (k : Nat) (v : Bool) (n : Nat) (hf : d.full = fun j => if j = k then v else c.full j) (hb : d.by_ = fun j => if j = k then n else c.by_ j) : ((csl c).set (k * 2) (.bool v)).set (k * 2 + 1) (.int .i64 (n : Int)) = csl d:=by
 unfold csl;rw [fnL_set,fnL_set];refine fnL_ext fun j _ => ?_
 rw [hf,hb];simp only
 by_cases h1 : j = k * 2 + 1
 ·subst h1
  rw [if_pos rfl,if_neg (by omega),if_pos (by omega)]
 ·rw [if_neg h1]
  by_cases h2 : j = k * 2
  ·subst h2
   rw [if_pos rfl,if_pos (by omega),if_pos (by omega)]
  ·rw [if_neg h2]
   by_cases h3 : j % 2 = 0
   ·rw [if_pos h3,if_pos h3,if_neg (by omega)]
   ·rw [if_neg h3,if_neg h3,if_neg (by omega)]
def atC (c : Cs) (x y z : Int) : Bool × Nat:=if (0 ≤ x ∧ x ≤ 23) ∧ (0 ≤ y ∧ y ≤ 23) ∧ (0 ≤ z ∧ z ≤ 23) then (c.full (at3 x.toNat y.toNat z.toNat),c.by_ (at3 x.toNat y.toNat z.toNat)) else (false,0)
def celV (q : Bool × Nat) : Value:=.agg #[.bool q.1,.int .i64 (q.2 : Int)]
theorem at_any (g gc : Nat) (vd vw vm : Value) (c : Cs) (x y z : Int) (w : World) (hg : vb w g 84 [.slice (some ⟨gc,0,none⟩) 13824 13824,vd,vw,vm]) (hc : vb w gc 141 (csl c)) :
  Calls Tryz.prog 90 #[.pointer (some ⟨g,0,none⟩),plv x y z] w fun e w' => e = .returned (celV (atC c x y z)) ∧ Below w.heap.size w w':=by
 have HG:=hide (fun W (h : Below w.heap.size w W) => hg.bel h);have HC:=hide (fun W (h : Below w.heap.size w W) => hc.bel h);have H1:=hide (fun W => btw_any x 0 23 W);have H2:=hide (fun W => btw_any y 0 23 W);have H3:=hide (fun W => btw_any z 0 23 W)
 obtain ⟨b1,hb1⟩ : ∃ b,btw x 0 23 = b:=⟨_,rfl⟩
 obtain ⟨b2,hb2⟩ : ∃ b,btw y 0 23 = b:=⟨_,rfl⟩
 obtain ⟨b3,hb3⟩ : ∃ b,btw z 0 23 = b:=⟨_,rfl⟩
 rw [hb1] at H1;rw [hb2] at H2;rw [hb3] at H3;have B1:=hide hb1;have B2:=hide hb2;have B3:=hide hb3
 have hno : ∀ (t : Int),btw t 0 23 = false → ¬ (0 ≤ t ∧ t ≤ 23):=by
  intro t ht h;unfold btw at ht;rw [dt h.1,dt h.2] at ht
  cases ht
 have hye : ∀ (t : Int),btw t 0 23 = true → 0 ≤ t ∧ t ≤ 23:=by
  intro t ht;unfold btw at ht
  simpa using ht
 have HNO:=hide hno;have HYE:=hide hye;unfold plv;clear hg hc hb1 hb2 hb3 hno hye;go_enter Tryz.func90,Tryz.ntmps90
 cases b1 with
 | false =>
  have hat : atC c x y z = (false,0):=by unfold atC;rw [if_neg (fun h => zu HNO _ (zu B1) h.1)]
  rw [hat];clear hat;go_wp2_with fail;refine (zu H1 _).mono ?_;rintro e W2 ⟨rfl,hw2⟩;rw [hw2];clear hw2 W2;go_wp2_with fail;refine bodyPost_ret (v:=.agg #[.bool false,.int .i64 0]) (by simp [results,Tryz.results90,go_sem];done) rfl ?_;refine ⟨rfl,?_⟩
  repeat (first | exact bfl _ _ | refine Below.setCell ?_ (Nat.le_refl _) _ | refine Below.setCell ?_ (by simp) _ | refine ba ?_ _)
 | true =>
  cases b2 with
  | false =>
   have hat : atC c x y z = (false,0):=by unfold atC;rw [if_neg (fun h => zu HNO _ (zu B2) h.2.1)]
   rw [hat];clear hat;go_wp2_with fail;refine (zu H1 _).mono ?_;rintro e W2 ⟨rfl,hw2⟩;rw [hw2];clear hw2 W2;go_wp2_with fail;refine (zu H2 _).mono ?_;rintro e W2 ⟨rfl,hw2⟩;rw [hw2];clear hw2 W2;go_wp2_with fail;refine bodyPost_ret (v:=.agg #[.bool false,.int .i64 0]) (by simp [results,Tryz.results90,go_sem];done) rfl ?_;refine ⟨rfl,?_⟩
   repeat (first | exact bfl _ _ | refine Below.setCell ?_ (Nat.le_refl _) _ | refine Below.setCell ?_ (by simp) _ | refine ba ?_ _)
  | true =>
   cases b3 with
   | false =>
    have hat : atC c x y z = (false,0):=by unfold atC;rw [if_neg (fun h => zu HNO _ (zu B3) h.2.2)]
    rw [hat];clear hat;go_wp2_with fail;refine (zu H1 _).mono ?_;rintro e W2 ⟨rfl,hw2⟩;rw [hw2];clear hw2 W2;go_wp2_with fail;refine (zu H2 _).mono ?_;rintro e W2 ⟨rfl,hw2⟩;rw [hw2];clear hw2 W2;go_wp2_with fail;refine (zu H3 _).mono ?_;rintro e W2 ⟨rfl,hw2⟩;rw [hw2];clear hw2 W2;go_wp2_with fail;refine bodyPost_ret (v:=.agg #[.bool false,.int .i64 0]) (by simp [results,Tryz.results90,go_sem];done) rfl ?_;refine ⟨rfl,?_⟩
    repeat (first | exact bfl _ _ | refine Below.setCell ?_ (Nat.le_refl _) _ | refine Below.setCell ?_ (by simp) _ | refine ba ?_ _)
   | true =>
    have i1:=zu HYE _ (zu B1);have i2:=zu HYE _ (zu B2);have i3:=zu HYE _ (zu B3)
    obtain ⟨xn,rfl⟩ : ∃ q : Nat,x = (q : Int):=⟨x.toNat,by omega⟩
    obtain ⟨yn,rfl⟩ : ∃ q : Nat,y = (q : Int):=⟨y.toNat,by omega⟩
    obtain ⟨zn,rfl⟩ : ∃ q : Nat,z = (q : Int):=⟨z.toNat,by omega⟩
    have hat : atC c xn yn zn = (c.full (at3 xn yn zn),c.by_ (at3 xn yn zn)):=by unfold atC;rw [if_pos ⟨i1,i2,i3⟩];simp
    rw [hat];have HCN:=hide (fun W => cellNo_any xn yn zn W (by omega) (by omega) (by omega));have hk:=at3_lt (x:=xn) (y:=yn) (z:=zn) (by omega) (by omega) (by omega)
    obtain ⟨k,hkq⟩ : ∃ q,at3 xn yn zn = q:=⟨_,rfl⟩
    rw [hkq] at HCN hk ⊢;have HKL:=hide hk;clear hat hkq i1 i2 i3 hk B1 B2 B3;go_wp2_with fail;refine (zu H1 _).mono ?_;rintro e W2 ⟨rfl,hw2⟩;rw [hw2];clear hw2 W2;go_wp2_with fail;refine (zu H2 _).mono ?_;rintro e W2 ⟨rfl,hw2⟩;rw [hw2];clear hw2 W2;go_wp2_with fail;refine (zu H3 _).mono ?_;rintro e W2 ⟨rfl,hw2⟩;rw [hw2];clear hw2 W2
    go_upto_region 3 with fail
    obtain ⟨W3,hW3⟩ : ∃ W,W = (w.alloc (.cells #[.int .i64 (xn : Int),.int .i64 (yn : Int),.int .i64 (zn : Int)] 156)).alloc (.cells #[.bool false,.int .i64 0] 141):=⟨_,rfl⟩
    have hp:=(vb_new w 156 [.int .i64 (xn : Int),.int .i64 (yn : Int),.int .i64 (zn : Int)] _ rfl).bel (ba (bfl _ _) (.cells #[.bool false,.int .i64 0] 141));have hr:=vb_new (w.alloc (.cells #[.int .i64 (xn : Int),.int .i64 (yn : Int),.int .i64 (zn : Int)] 156)) 141 [.bool false,.int .i64 0] (w.heap.size + 1) (by simp);have hb : Below w.heap.size w ((w.alloc (.cells #[.int .i64 (xn : Int),.int .i64 (yn : Int),.int .i64 (zn : Int)] 156)).alloc (.cells #[.bool false,.int .i64 0] 141)):=ba (ba (bfl _ _) _) _;rw [← hW3] at hb ⊢
    have hp' : vb W3 w.heap.size 156 [.int .i64 (xn : Int),.int .i64 (yn : Int),.int .i64 (zn : Int)]:=by rw [hW3];exact hp
    have hr' : vb W3 (w.heap.size + 1) 141 [.bool false,.int .i64 0]:=by rw [hW3];exact hr
    clear hp hr hW3;have hg3:=zu HG _ hb;have hc3:=zu HC _ hb;have HB:=hide hb;have HR:=hide hr';refine Go.Code.wp_mono (Only.to (fun _ _ h => h)) (at3r (hide (hg3.cell (m:=0) rfl)) (hide (hp'.cell (m:=0) rfl)) (hide (hp'.cell (m:=1) rfl)) (hide (hp'.cell (m:=2) rfl)) (hide (hc3.cell (csl_f c (zu HKL)))) (hide (hc3.cell (csl_b c (zu HKL)))) hr'.lt (hide (hr'.cell (m:=0) rfl)) (hide (hr'.cell (m:=1) rfl)) (hide hr'.frozen) (hide fun X _ => zu HCN X) HKL ?_);intro W1 W9 hW9 hb9
    have hr9 : vb W9 (w.heap.size + 1) 141 [.bool (c.full k),.int .i64 (c.by_ k : Int)]:=by rw [hW9];exact (((zu HR).bel hb9).set 0 _).set 1 _
    have hb8 : Below w.heap.size w W9:=by rw [hW9];exact ((bc (zu HB) hb9).setCell (show w.heap.size ≤ (⟨w.heap.size + 1,0,none⟩ : Addr).block from Nat.le_succ _) _).setCell (show w.heap.size ≤ (⟨w.heap.size + 1,0 + 1,none⟩ : Addr).block from Nat.le_succ _) _
    have r0:=hr9.cell (m:=0) rfl;have r1:=hr9.cell (m:=1) rfl;have HB8:=hide hb8;clear hW9 hb9 hr9 hb8;go_wp2_with fail;refine bodyPost_ret (v:=.agg #[.bool (c.full k),.int .i64 (c.by_ k : Int)]) (by simp [results,Tryz.results90,go_sem,r0,r1];done) rfl ?_;exact ⟨rfl,zu HB8⟩
theorem own_apart {w : World} {B B' t t' k k' n m : Nat} {v v' : Value} {L M : List Value} (h : w.ownsRow B t k v n L) (h' : w.ownsRow B' t' k' v' m M) (ht : t ≠ t') {g : Nat} (hv : v.ownBlock = some g) : v'.ownBlock ≠ some g:=by
 intro hv'
 rcases h.2 with ⟨rfl,_⟩ | ⟨g1,cap,cur,rfl,_,hh,_⟩
 ·cases hv
 ·rcases h'.2 with ⟨rfl,_⟩ | ⟨g2,cap',cur',rfl,_,hh',_⟩
  ·cases hv'
  ·simp only [Value.ownBlock,Option.some.injEq] at hv hv'
   subst hv;subst hv';rw [hh] at hh';simp only [Option.some.injEq,Obj.cells.injEq] at hh';exact ht hh'.2.1
structure Mq (w : World) (B : Nat) (u : Option Addr) (n cu g gf gb : Nat) (vd vo : Value) (dl : List Nat) (ol : List ByteArray) (c : Cs) : Prop where
 blk : vb w g 97 [.slice u n cu,vd,.slice (some ⟨gf,0,none⟩) 13824 13824,.slice (some ⟨gb,0,none⟩) 13824 13824,vo]
 cs : CsM w gf gb c
 dn : w.ownsRow B 3 1 vd dl.length (flatG natc dl)
 od : w.ownsRow B 9 1 vo ol.length (strs ol)
theorem Mdm.q {w : World} {B : Nat} {u : Option Addr} {n cu : Nat} {fs : List Ft} {g gf gb : Nat} {ud : Option Addr} {cd : Nat} {uo : Option Addr} {co : Nat} {D : Bd} (h : Mdm w B u n cu fs g gf gb ud cd uo co D) :
  Mq w B u n cu g gf gb (.slice ud D.done.length cd) (.slice uo D.done.length co) D.done (onm fs D.done) D.cs:=⟨h.blk,h.cs,h.dn,by rw [onm_len];exact h.od⟩
theorem Mq.m {w : World} {B : Nat} {u : Option Addr} {n cu g gf gb : Nat} {vd vo : Value} {dl : List Nat} {fs : List Ft} {c : Cs} (h : Mq w B u n cu g gf gb vd vo dl (onm fs dl) c) :
  ∃ ud cd uo co,vd = .slice ud dl.length cd ∧ vo = .slice uo dl.length co ∧ Mdm w B u n cu fs g gf gb ud cd uo co ⟨dl,c⟩:=by
 obtain ⟨ud,cd,rfl,_⟩:=own_form h.dn;have ho:=h.od;rw [onm_len] at ho;obtain ⟨uo,co,rfl,_⟩:=own_form ho;exact ⟨ud,cd,uo,co,rfl,rfl,⟨h.blk,h.cs,h.dn,ho⟩⟩
theorem Mq.bel {w w' : World} {B : Nat} {u : Option Addr} {n cu g gf gb : Nat} {vd vo : Value} {dl : List Nat} {ol : List ByteArray} {c : Cs} (h : Mq w B u n cu g gf gb vd vo dl ol c) (hb : Below w.heap.size w w') : Mq w' B u n cu g gf gb vd vo dl ol c:=⟨h.blk.bel hb,h.cs.bel hb,own_bel h.dn hb,own_bel h.od hb⟩
theorem grw_keep {wr W2 w1 : World} {v : Value} {g o : Nat} {x : Value} (hb : Below wr.heap.size wr W2) (hg : W2.grownBy w1 v.ownBlock) {j : Nat} (hj : j < wr.heap.size) (h1 : j ≠ g) (h2 : v.ownBlock ≠ some j) : (w1.setCell ⟨g,o,none⟩ x).heap[j]? = wr.heap[j]? :=
 (Below.heap_setCell _ _ _ _ h1).trans ((hg.block j (Nat.lt_of_lt_of_le hj hb.size) (fun e => h2 e.symm)).trans (hb.block j hj))
theorem grw_own {wr W2 w1 : World} {v v' : Value} {g o B t k n B' t' k' m : Nat} {x : Value} {L M : List Value} (hb : Below wr.heap.size wr W2) (hg : W2.grownBy w1 v.ownBlock) (h : wr.ownsRow B t k v n L) (h' : wr.ownsRow B' t' k' v' m M) (ht : t ≠ t') (hB : g < B') :
  (w1.setCell ⟨g,o,none⟩ x).ownsRow B' t' k' v' m M :=
 own_kept h' fun j hj => grw_keep hb hg (own_ge h' j hj).2 (by have:=(own_ge h' j hj).1;omega) (fun e => own_apart h h' ht e hj)
theorem grw_th {wr W2 w1 : World} {v : Value} {g gf gb o B : Nat} {x : Value} {t k n : Nat} {L : List Value} (hb : Below wr.heap.size wr W2) (hg : W2.grownBy w1 v.ownBlock) (h : wr.ownsRow B t k v n L) (hB : B ≤ wr.heap.size) : Th g gf gb B wr (w1.setCell ⟨g,o,none⟩ x) :=
 (Th.of_bel ((hb.mono hB).grown hg (Nat.le_trans hB hb.size) (fun j hj => (own_ge h j hj).1))).trans (Th.set _ _ _)
theorem Mq.done {wr W2 w1 : World} {B : Nat} {u : Option Addr} {n cu g gf gb : Nat} {vd vo v' : Value} {dl : List Nat} {ol : List ByteArray} {c : Cs} {i : Nat} (h : Mq wr B u n cu g gf gb vd vo dl ol c)
  (hb : Below wr.heap.size wr W2) (hg : W2.grownBy w1 vd.ownBlock) (hown : w1.ownsRow B 3 1 v' (dl.length + 1) (flatG natc dl ++ natc i)) (h1 : g < B) (h2 : gf < B) (h3 : gb < B) (n1 : g ≠ gf) (n2 : g ≠ gb) :
  Mq (w1.setCell ⟨g,1,none⟩ v') B u n cu g gf gb v' vo (dl ++ [i]) ol c:=by
 have hgl:=h.blk.lt;have lo : ∀ j,j < B → vd.ownBlock ≠ some j:=fun j hj e => by have:=(own_ge h.dn j e).1;omega
 have hv1 : vb w1 g 97 _:=((hg.block g (Nat.lt_of_lt_of_le hgl hb.size) (fun e => lo g h1 e.symm)).trans (hb.block g hgl)).trans h.blk;refine ⟨hv1.set 1 v',⟨?_,?_⟩,?_,grw_own hb hg h.dn h.od (by decide) h1⟩
 ·exact (grw_keep hb hg h.cs.f.lt (fun e => n1 e.symm) (lo _ h2)).trans h.cs.f
 ·exact (grw_keep hb hg h.cs.b.lt (fun e => n2 e.symm) (lo _ h3)).trans h.cs.b
 ·rw [List.length_append,flatG_append,flat_oneG]
  exact own_kept hown fun j hj => Below.heap_setCell _ _ _ _ (by have:=(own_ge hown j hj).1;show j ≠ g;omega)
theorem Mq.ord {wr W2 w1 : World} {B : Nat} {u : Option Addr} {n cu g gf gb : Nat} {vd vo v' : Value} {dl : List Nat} {ol : List ByteArray} {c : Cs} {s : ByteArray} (h : Mq wr B u n cu g gf gb vd vo dl ol c)
  (hb : Below wr.heap.size wr W2) (hg : W2.grownBy w1 vo.ownBlock) (hown : w1.ownsRow B 9 1 v' (ol.length + 1) (strs ol ++ [.string s])) (h1 : g < B) (h2 : gf < B) (h3 : gb < B) (n1 : g ≠ gf) (n2 : g ≠ gb) :
  Mq (w1.setCell ⟨g,4,none⟩ v') B u n cu g gf gb vd v' dl (ol ++ [s]) c:=by
 have hgl:=h.blk.lt;have lo : ∀ j,j < B → vo.ownBlock ≠ some j:=fun j hj e => by have:=(own_ge h.od j e).1;omega
 have hv1 : vb w1 g 97 _:=((hg.block g (Nat.lt_of_lt_of_le hgl hb.size) (fun e => lo g h1 e.symm)).trans (hb.block g hgl)).trans h.blk;refine ⟨hv1.set 4 v',⟨?_,?_⟩,grw_own hb hg h.od h.dn (by decide) h1,?_⟩
 ·exact (grw_keep hb hg h.cs.f.lt (fun e => n1 e.symm) (lo _ h2)).trans h.cs.f
 ·exact (grw_keep hb hg h.cs.b.lt (fun e => n2 e.symm) (lo _ h3)).trans h.cs.b
 ·rw [List.length_append,show strs (ol ++ [s]) = strs ol ++ [.string s] by simp [strs]]
  exact own_kept hown fun j hj => Below.heap_setCell _ _ _ _ (by have:=(own_ge hown j hj).1;show j ≠ g;omega)
theorem Mq.c1 {wr W2 w1 : World} {B : Nat} {u : Option Addr} {n cu g gf gb : Nat} {vd vo : Value} {dl : List Nat} {ol : List ByteArray} {c : Cs} (h : Mq wr B u n cu g gf gb vd vo dl ol c)
  (hb : Below wr.heap.size wr W2) (hg : W2.grownBy w1 vd.ownBlock) (h1 : g < B) : w1.cell? ⟨g,1,none⟩ = some vd ∧ ∀ o,w1.frozen? ⟨g,o,none⟩ = false:=by
 have hgl:=h.blk.lt;have lo : ∀ j,j < B → vd.ownBlock ≠ some j:=fun j hj e => by have:=(own_ge h.dn j e).1;omega
 have hv1 : vb w1 g 97 _:=((hg.block g (Nat.lt_of_lt_of_le hgl hb.size) (fun e => lo g h1 e.symm)).trans (hb.block g hgl)).trans h.blk;exact ⟨hv1.cell (m:=1) rfl,hv1.frozen⟩
theorem Mq.c4 {wr W2 w1 : World} {B : Nat} {u : Option Addr} {n cu g gf gb : Nat} {vd vo : Value} {dl : List Nat} {ol : List ByteArray} {c : Cs} (h : Mq wr B u n cu g gf gb vd vo dl ol c)
  (hb : Below wr.heap.size wr W2) (hg : W2.grownBy w1 vo.ownBlock) (h1 : g < B) : w1.cell? ⟨g,4,none⟩ = some vo ∧ ∀ o,w1.frozen? ⟨g,o,none⟩ = false:=by
 have hgl:=h.blk.lt;have lo : ∀ j,j < B → vo.ownBlock ≠ some j:=fun j hj e => by have:=(own_ge h.od j e).1;omega
 have hv1 : vb w1 g 97 _:=((hg.block g (Nat.lt_of_lt_of_le hgl hb.size) (fun e => lo g h1 e.symm)).trans (hb.block g hgl)).trans h.blk;exact ⟨hv1.cell (m:=4) rfl,hv1.frozen⟩
theorem strs_one (s : ByteArray) : ∀ u ∈ [Value.string s],u.oneCell' = true:=by intro u hu;rw [List.mem_singleton.1 hu];rfl
theorem Mq.fill {wr w1 : World} {B : Nat} {u : Option Addr} {n cu g gf gb : Nat} {vd vo : Value} {dl : List Nat} {ol : List ByteArray} {c c' : Cs} (h : Mq wr B u n cu g gf gb vd vo dl ol c) (hc : CsM w1 gf gb c') (ht : Tw gf gb wr w1)
  (h2 : gf < B) (h3 : gb < B) (n1 : g ≠ gf) (n2 : g ≠ gb) : Mq w1 B u n cu g gf gb vd vo dl ol c' :=
  ⟨ht.vb h.blk n1 n2,hc,own_kept h.dn fun j hj => ht.block j (own_ge h.dn j hj).2 (by have:=(own_ge h.dn j hj).1;omega) (by have:=(own_ge h.dn j hj).1;omega),
   own_kept h.od fun j hj => ht.block j (own_ge h.od j hj).2 (by have:=(own_ge h.od j hj).1;omega) (by have:=(own_ge h.od j hj).1;omega)⟩
theorem bxs_len {fs : List Ft} {f : Ft} (h : Fb f) : (bxs fs f).length ≤ 8:=by
 unfold bxs
 split
 ·rw [bxsN,List.length_map,List.length_range]
  have:=h.ct;omega
 ·simp
theorem onm_app (fs : List Ft) (l : List Nat) (i : Nat) : onm fs (l ++ [i]) = onm fs l ++ [(fs.getD i ft0).nm]:=by simp [onm]
theorem fil_take {v : Bool} {m : Nat} {l : List Bx} {c : Cs} {k : Nat} {b : Bx} (h : l[k]? = some b) : (l.take (k + 1)).foldl (fun c b => fil b v m c) c = fil b v m ((l.take k).foldl (fun c b => fil b v m c) c):=by
 rw [List.take_add_one,h,List.foldl_append];rfl
end Go.Proofs.YtkiplmabjeadgaaGreat
