/- The program's do, whole. -/
import Derived.Test.YtkiplmabjeadgaaGreatBpDqR
import Derived.Sort.LoopGhostIn
namespace Go.Proofs.YtkiplmabjeadgaaGreat
set_option maxRecDepth 100000
set_option maxHeartbeats 16000000
open Go.ChangeShapes Go.WideShapes Go.ChangeAt Go.RowKit Go.Shelf Go.Maps Go.WideMaps
attribute [local go_sem] Oper.semAt_some
set_option linter.unusedVariables false
set_option linter.unusedSimpArgs false
def pX (x0 nx k : Nat) : Nat:=x0 + k % nx
def pY (y0 nx ny k : Nat) : Nat:=y0 + k / nx % ny
def pZ (z0 nx ny k : Nat) : Nat:=z0 + k / (nx * ny)
theorem plk_p (x0 nx y0 ny z0 k : Nat) : plk x0 nx y0 ny z0 k = #[.agg #[.int .i64 (pX x0 nx k : Int),.int .i64 (pY y0 nx ny k : Int),.int .i64 (pZ z0 nx ny k : Int)]]:=rfl
structure Dq (W2 : World) (gc N : Nat) (cs : Nat → Cs) (O : Nat → Prop) (k : Nat) (X : World) : Prop where
 far : ∀ b,O b → N ≤ b
 os : X.os = W2.os
 tape : X.tape = W2.tape
 output : X.output = W2.output
 big : N ≤ X.heap.size
 cel : vb X gc 141 (csl (cs k))
 kp : ∀ b,b < N → b ≠ gc → X.heap[b]? = W2.heap[b]?
theorem Dq.on {W2 : World} {gc N : Nat} {cs : Nat → Cs} {O O' : Nat → Prop} {k : Nat} {A A' : World} (h : Dq W2 gc N cs O k A) (hg : Grw O A A') (hO : ∀ b,O' b → O b ∨ A.heap.size ≤ b) (h2 : gc < N) : Dq W2 gc N cs O' k A':=by
 have hbel : Below N A A':=hg.bel h.big h.far;exact ⟨fun b hb => (hO b hb).elim (h.far b) (fun e => Nat.le_trans h.big e),hg.os.trans h.os,hg.tape.trans h.tape,hg.output.trans h.output,Nat.le_trans h.big hbel.size,h.cel.below hbel h2,fun b hb hn => (hbel.block b hb).trans (h.kp b hb hn)⟩
theorem Dq.vb {W2 : World} {gc N : Nat} {cs : Nat → Cs} {O : Nat → Prop} {k : Nat} {X : World} (h : Dq W2 gc N cs O k X) {b t : Nat} {L : List Value} (hv : vb W2 b t L) (hN : W2.heap.size = N) (hn : b ≠ gc) : vb X b t L:=(h.kp b (by have:=hv.lt;omega) hn).trans hv
theorem Dq.sl {α : Type} {c : α → List Value} {kk : Nat} {W2 : World} {gc N : Nat} {cs : Nat → Cs} {O : Nat → Prop} {k : Nat} {X : World} (h : Dq W2 gc N cs O k X) {u : Option Addr} {p po : Nat} {l : List α} (hs : SlG c kk W2 u p po l) (hN : W2.heap.size = N) (hn : l ≠ [] → p ≠ gc) : SlG c kk X u p po l:=by
 intro h0;obtain ⟨h1,h2,h3⟩:=hs h0;refine ⟨h1,Nat.lt_of_lt_of_le h2 (by rw [hN];exact h.big),fun i a ha j v hv => ?_⟩;have hc:=h3 i a ha j v hv;rw [← hc];unfold World.cell?;simp only [h.kp p (by omega) (hn h0)]
theorem doP_any {B g gc bm cap i : Nat} {vd vw : Value} {fs : List Ft} {ws : List Wk} {D : Bd} {k : Wk} {w : World} (hP : Pdm w B fs g gc bm cap vd vw ws D) (hk : k.ok) (hin : ∀ b ∈ k.bx,bxOk b = true) (hs : (fs.getD i ft0).nm.size ≤ maxLen) (hn : D.done.length ≤ 900) (hcap : cap ≤ 900)
  (hB : B ≤ w.heap.size) (h1 : g < B) (h2 : gc < B) (h3 : bm < B) (n1 : g ≠ gc) (n2 : g ≠ bm) (n3 : gc ≠ bm) :
  Calls Tryz.prog 118 #[.pointer (some ⟨g,0,none⟩),.string (fs.getD i ft0).nm,k.v] w fun e w' => e = .returned (.tuple #[]) ∧ (∃ vd' vw',Pdm w' B fs g gc bm (cap + 1) vd' vw' (ws ++ [k]) ⟨D.done ++ [i],k.bx.foldl (fun c b => fil b (k.t == 240) (D.done.length + 1) c) D.cs⟩) ∧ Th g gc bm B w w':=by
 refine (callsIn_wide (n:=0)).1 ?_;obtain ⟨t,u,fn,hkv,hfn,hme,hbx⟩:=Wk.boxes hk;have HFL:=hide (fun W => fills_any k hk W)
 obtain ⟨L,hL⟩ : ∃ L,k.bx = L:=⟨_,rfl⟩
 have HLB:=hide (show L.length ≤ 8 by rw [← hL];exact Wk.len hk);rw [hL] at hbx hin ⊢;have HHL:=hide hL;have HIN:=hide hin;have HQ0:=hide hP.q;have HLN:=hide hP.len;have hol : (onm fs D.done).length = D.done.length:=onm_len _ _
 obtain ⟨n,hnn⟩ : ∃ n,D.done.length = n:=⟨_,rfl⟩
 obtain ⟨ol,hoe⟩ : ∃ l,onm fs D.done = l:=⟨_,rfl⟩
 obtain ⟨kv,hke⟩ : ∃ l,ws.map Wk.v = l:=⟨_,rfl⟩
 have hkl : kv.length = n:=by rw [← hke,List.length_map,hP.len,hnn]
 rw [hoe,hnn] at hol;rw [hoe,hke] at HQ0
 obtain ⟨nm,hnm⟩ : ∃ s,(fs.getD i ft0).nm = s:=⟨_,rfl⟩
 obtain ⟨fl,hfl⟩ : ∃ r,(k.t == 240) = r:=⟨_,rfl⟩
 rw [hfl] at HFL;have HST:=hide (fun W (h : MpN W bm cap fs D.done) => h.store (by unfold maxLen;omega) i hs (by omega));rw [hnm,hnn] at HST;have HOE:=hide hoe;have HKE:=hide hke;have HNM:=hide hnm;have HNN:=hide hnn;have HFE:=hide hfl;have HBX:=hide hbx;have HKV:=hide hkv;obtain ⟨ud,cd,rfl,_⟩:=own_form (zu HQ0).dn;obtain ⟨uw,cw,rfl,_⟩:=own_form (zu HQ0).wk;rw [hol,hkl] at HQ0;have hlt:=(zu HQ0).blk.lt;rw [hkv] at HFL;rw [hnm,hkv];rw [hnn] at hn;clear hP hL hk hin hs hbx hkv hnm hnn hoe hke hfl;refine callsIn_of_wp_marks Tryz.func118 rfl trivial ?_ rfl
 simp only [Tryz.ntmps118,List.size_toArray,List.length_cons,List.length_nil,Nat.reduceAdd,Nat.reduceSub,Array.replicate_succ,Array.replicate_zero,List.push_toArray,List.append_toArray,List.nil_append,List.cons_append];gi_wp2;have hbA:=ba (bfl w.heap.size w) (.cells #[.pointer (some ⟨g,0,none⟩)] 77);have hq1:=(zu HQ0).bel hbA;have hv1:=vb_new w 77 [.pointer (some ⟨g,0,none⟩)] w.heap.size rfl
 refine wpIn_mono (wpIn_wide.2 (pd1 (B:=B) (ol:=ol) (hide hq1.blk) (hide hv1) (hide (by have:=hq1.dn;rw [hol] at this;exact this)) h1 (by simp;omega) hn (fun e => by have:=(own_ge (zu HQ0).dn _ e).2;omega) ?q1)) (Only.to (fun _ _ h => h))
 case q1 =>
  intro tA tB W0 w9 hb0 hg0 ho0;have hq2:=hq1.name hb0 hg0 (by rw [hol];exact ho0) h1 h2 h3 n1 n2;have hv2 : vb (w9.setCell ⟨g,1,none⟩ tB) w.heap.size 77 [.pointer (some ⟨g,0,none⟩)]:=(grw_keep hb0 hg0 hv1.lt (by omega) (fun e => by have:=(own_ge (zu HQ0).dn _ e).2;omega)).trans hv1;have ht2 : Th g gc bm B w (w9.setCell ⟨g,1,none⟩ tB):=(Th.of_bel (hbA.mono hB)).trans (grw_th hb0 hg0 hq1.dn (by simp;omega))
  obtain ⟨X1,hX1⟩ : ∃ X,X = w9.setCell ⟨g,1,none⟩ tB:=⟨_,rfl⟩
  rw [← hX1] at hq2 hv2 ht2 ⊢;clear hX1 hg0 ho0 hb0 hq1 hv1 hbA;have hwk:=hq2.wk;rw [hkl] at hwk;gi_wp2;refine wpIn_mono (wpIn_wide.2 (pd2 (B:=B) (ol:=kv) (hide hq2.blk) (hide hv2) (hide hwk) h1 (by have:=ht2.size;omega) hn (fun e => by have:=(own_ge (zu HQ0).wk _ e).2;omega) (by intro q hq;rw [List.mem_singleton.1 hq];rfl) ?q2)) (Only.to (fun _ _ h => h))
  case q2 =>
   intro tC tD W2 w8 hb3 hg3 ho3;have hq3:=hq2.work hb3 hg3 (by rw [hkl];exact ho3) h1 h2 h3 n1 n2;have hv3 : vb (w8.setCell ⟨g,2,none⟩ tD) w.heap.size 77 [.pointer (some ⟨g,0,none⟩)]:=(grw_keep hb3 hg3 hv2.lt (by omega) (fun e => by have:=(own_ge (zu HQ0).wk _ e).2;omega)).trans hv2;have ht3 : Th g gc bm B w (w8.setCell ⟨g,2,none⟩ tD):=ht2.trans (grw_th hb3 hg3 hq2.wk (by have:=ht2.size;omega))
   obtain ⟨X2,hX2⟩ : ∃ X,X = w8.setCell ⟨g,2,none⟩ tD:=⟨_,rfl⟩
   rw [← hX2] at hq3 hv3 ht3 ⊢;clear hX2 hg3 ho3 hb3 hq2 hv2 ht2 hwk;obtain ⟨ue,ce,rfl,_⟩:=own_form hq3.dn;rw [List.length_append,hol,List.length_singleton] at hq3 ⊢;have HQ3:=hide hq3;have HV3:=hide hv3;have HT3:=hide ht3;have hw3:=hv3.lt;clear hq3 hv3 ht3;gi_wp2
   refine wpIn_mono (wpIn_wide.2 (pd3 (n:=n + 1) (Z_:=fun W9 => Pq W9 B g gc bm (cap + 1) (.slice ue (n + 1) ce) tD (ol ++ [nm]) (kv ++ [.iface t u]) fs (D.done ++ [i]) D.cs ∧ vb W9 w.heap.size 77 [.pointer (some ⟨g,0,none⟩)] ∧ Th g gc bm B w W9) (hide ((zu HV3).cell (m:=0) rfl)) (hide ((zu HQ3).blk.cell (m:=3) rfl)) (hide ((zu HQ3).blk.cell (m:=1) rfl)) (hide fun X hX => ?m3) ?q3)) (Only.to (fun _ _ h => h))
   case m3 =>
    have hq4:=(zu HQ3).bel hX;obtain ⟨w',hr,hm,ht⟩:=zu HST X hq4.mp;refine ⟨w',hr,hq4.num hm ht h3 n2 n3,?_,?_⟩
    ·exact ((Tm.turned ht).block _ (Nat.lt_of_lt_of_le hw3 hX.size) (by omega)).trans ((zu HV3).bel hX)
    ·have hsz:=(zu HT3).size
     exact ((zu HT3).trans (Th.of_bel (hX.mono (by omega)))).trans ⟨(Tm.turned ht).os,(Tm.turned ht).tape,(Tm.turned ht).output,(Tm.turned ht).size,fun j hj _ _ hjb => (Tm.turned ht).block j (by have:=hX.size;omega) hjb⟩
   case q3 =>
    rintro W9 ⟨hq9,hv9,ht9⟩;have HQ9:=hide hq9;have HV9:=hide hv9;have HT9:=hide ht9;clear hq9 hv9 ht9 HQ3 HV3 HT3 HST HQ0 hw3;gi_wp2;refine ⟨trivial,rfl,(callsIn_wide.2 (zu HFL _)).mono ?_⟩;rintro _ WA ⟨rfl,hbA⟩;have HQA:=hide ((zu HQ9).bel hbA);have HVA:=hide ((zu HV9).bel hbA);have HTA:=hide ((zu HT9).trans (Th.of_bel (hbA.mono (by have:=(zu HT9).size;omega))));have HVF:=hide (vb_new WA 4 [.bool fl] WA.heap.size rfl);have hb6 : Below WA.heap.size WA (WA.alloc (.cells #[.bool fl] 4)):=ba (bfl _ _) _;have HB6:=hide hb6;clear hbA HQ9 HV9 HT9 HFL hb6
    have hen : ∀ (args : Array Value) (W : World),(callFunc fn args).run Tryz.prog W = .ok (.enter fn args) W:=by
     rcases hfn with rfl | rfl | rfl
     ·exact enters_of Tryz.func247 (by kernel_rfl) rfl
     ·exact enters_of Tryz.func249 (by kernel_rfl) rfl
     ·exact enters_of Tryz.func251 (by kernel_rfl) rfl
    ·gi_wp2
     refine ⟨trivial,rfl,(callsIn_wide.2 (zu HBX _)).mono ?_⟩;rintro _ WB ⟨⟨ua,p,m,cu,rfl,hl,hsl,hpB⟩,hbB⟩;have hbw:=bc (zu HB6) hbB;have HQB:=hide ((zu HQA).bel hbw);have HVB:=hide ((zu HVA).bel hbw);have HVF2:=hide ((zu HVF).bel hbB);have HTB:=hide ((zu HTA).trans (Th.of_bel (hbw.mono (by have:=(zu HTA).size;omega))));have HSL:=hide hsl;have HPB:=hide hpB;have HL:=hide hl;have hsA:=(zu HTA).size;have hsB:=hbw.size;have hml : m ≤ 8:=by rw [← hl];exact zu HLB
     obtain ⟨ol',hol'⟩ : ∃ o,ol ++ [nm] = o:=⟨_,rfl⟩
     obtain ⟨kv',hkv'⟩ : ∃ o,kv ++ [Value.iface t u] = o:=⟨_,rfl⟩
     rw [hol',hkv'] at HQB;have HHO:=hide hol';have HHK:=hide hkv';clear hol' hkv' hl hsl hpB hbB hbw HQA HVA HVF HTA HB6 HBX HLB;gi_wp2;have hen0:=hen;clear hen hme
     refine wpIn_loop (fun a X => ∃ (j : Nat) (Ds : List Nat) (s0 s1 s2 s4 s5 s7 s8 s9 s10 s11 s12 s13 s14 s15 s16 s17 s18 s19 s20 s21 s22 s23 s24 s25 s26 s27 s28 s29 s30 s31 s32 s33 s34 s35 s36 s37 s38 s39 s40 s41 s42 s43 s47 s48 s49 s50 s51 s52 s53 s54 s55 s56 s57 s58 s59 s60 s61 s62 s63 s64 s65 s66 s67 s68 s69 s70 s71 s72 s73 s74 s75 : Value),a = ({ tmps:=#[s0,s1,s2,.pointer (some ⟨w.heap.size,0,none⟩),s4,s5,.pointer (some ⟨WA.heap.size,0,none⟩),s7,s8,s9,s10,s11,s12,s13,s14,s15,s16,s17,s18,s19,s20,s21,s22,s23,s24,s25,s26,s27,s28,s29,s30,s31,s32,s33,s34,s35,s36,s37,s38,s39,s40,s41,s42,s43,.slice ua m cu,.int .i64 (m : Int),.int .i64 (j : Int),s47,s48,s49,s50,s51,s52,s53,s54,s55,s56,s57,s58,s59,s60,s61,s62,s63,s64,s65,s66,s67,s68,s69,s70,s71,s72,s73,s74,s75],defers:=mks Ds } : Act) ∧ j ≤ m ∧ Ds.Nodup ∧ (∀ E ∈ Ds,WB.heap.size ≤ E ∧ X.heap[E]? = some (.deferred (some []))) ∧ Pq X B g gc bm (cap + 1) (.slice ue (n + 1) ce) tD ol' kv' fs (D.done ++ [i]) ((L.take j).foldl (fun c b => fil b fl (n + 1) c) D.cs) ∧ vb X w.heap.size 77 [.pointer (some ⟨g,0,none⟩)] ∧ vb X WA.heap.size 4 [.bool fl] ∧ Th g gc bm B w X ∧ SlG bxc 6 X ua p 0 L ∧ WB.heap.size ≤ X.heap.size) (fun a _ => m - (intOf (a.tmps.getD 46 undef)).toNat) ⟨0,[],_,_,_,_,_,_,_,_,_,_,_,_,_,_,_,_,_,_,_,_,_,_,_,_,_,_,_,_,_,_,_,_,_,_,_,_,_,_,_,_,_,_,_,_,_,_,_,_,_,_,_,_,_,_,_,_,_,_,_,_,_,_,_,_,_,_,_,_,_,_,_,rfl,Nat.zero_le _,List.nodup_nil,fun _ h => (List.not_mem_nil h).elim,zu HQB,zu HVB,zu HVF2,zu HTB,zu HSL,Nat.le_refl _⟩ ?round
     case round =>
      have HOB:=hide (show (∀ q,(Value.slice ue (n + 1) ce).ownBlock = some q → q < WB.heap.size) ∧ (∀ q,tD.ownBlock = some q → q < WB.heap.size) from ⟨fun q e => (own_ge (zu HQB).dn q e).2,fun q e => (own_ge (zu HQB).wk q e).2⟩);have HGB:=hide (show g < WB.heap.size ∧ gc < WB.heap.size ∧ bm < WB.heap.size ∧ B ≤ WB.heap.size by omega);clear HQB HVB HVF2 HTB HSL
      rintro a_ wr ⟨j,Ds,s0,s1,s2,s4,s5,s7,s8,s9,s10,s11,s12,s13,s14,s15,s16,s17,s18,s19,s20,s21,s22,s23,s24,s25,s26,s27,s28,s29,s30,s31,s32,s33,s34,s35,s36,s37,s38,s39,s40,s41,s42,s43,s47,s48,s49,s50,s51,s52,s53,s54,s55,s56,s57,s58,s59,s60,s61,s62,s63,s64,s65,s66,s67,s68,s69,s70,s71,s72,s73,s74,s75,rfl,hj,hnd,hds,hq,hv,hvf,ht,hsl,hsz⟩;have HQ:=hide hq;have HV:=hide hv;have HVF:=hide hvf;have HT:=hide ht;have HSL:=hide hsl;have HSZ:=hide hsz;have HND:=hide hnd;have HDS:=hide hds
      clear hq hv hvf ht hnd hds
      by_cases h : j < m
      ·have iz : decide ((j : Int) < (m : Int)) = true:=dt (by omega)
       have i1 : (j : Int) < (m : Int):=by omega
       have i0 : (0 : Int) ≤ (j : Int):=Int.natCast_nonneg _;have wi : IntKind.i64.wrap ((j : Int) + 1) = ((j + 1 : Nat) : Int):=(wrap_i (by omega) (by omega)).trans (by simp);obtain ⟨b,hx⟩:=get_some (zu HL) h;obtain ⟨x0,nx,y0,ny,z0,nz,rfl,hx9,hy9,hz9⟩:=okN (zu HIN b (List.mem_of_getElem? hx));obtain ⟨rfl,hpw,hc⟩:=hsl.at hx;have c0:=hc 0 _ rfl;have c1:=hc 1 _ rfl;have c2:=hc 2 _ rfl;have c3:=hc 3 _ rfl;have c4:=hc 4 _ rfl;have c5:=hc 5 _ rfl;rw [Nat.zero_add] at c0 c1 c2 c3 c4 c5;rw [Nat.add_zero] at c0;have HX:=hide hx;have HI:=hide h
       have hpn : p ≠ gc:=by have:=zu HPB (fun e => by rw [e] at hx;cases hx);simp at this;omega
       have HPL:=hide (fun X => places_any (bN x0 nx y0 ny z0 nz) X);unfold bxv bxc bN at HPL;simp only at HPL;unfold bN at c0 c1 c2 c3 c4 c5;simp only at c0 c1 c2 c3 c4 c5;clear hsl hc hx;gi_wp2;refine ⟨trivial,rfl,(callsIn_wide.2 (zu HPL _)).mono ?_⟩;rintro _ W2 ⟨rfl,hw2⟩;have hBx : Below wr.heap.size wr (wr.alloc (.cells #[.int .i64 (x0 : Int),.int .i64 (y0 : Int),.int .i64 (z0 : Int),.int .i64 ((x0 + nx : Nat) : Int),.int .i64 ((y0 + ny : Nat) : Int),.int .i64 ((z0 + nz : Nat) : Int)] 41)):=ba (bfl _ _) _;have hB2 : Below wr.heap.size wr W2:=by rw [hw2];exact ba hBx _
       have hs2 : W2.heap.size = wr.heap.size + 1 + 1:=by rw [hw2];simp
       have hvr : vb W2 (wr.heap.size + 1) 41 [.int .i64 (x0 : Int),.int .i64 (y0 : Int),.int .i64 (z0 : Int),.int .i64 ((x0 + nx : Nat) : Int),.int .i64 ((y0 + ny : Nat) : Int),.int .i64 ((z0 + nz : Nat) : Int)]:=by rw [hw2];exact vb_new _ 41 _ _ (by simp)
       obtain ⟨C,hC⟩ : ∃ C,(L.take j).foldl (fun c b => fil b fl (n + 1) c) D.cs = C:=⟨_,rfl⟩
       rw [hC] at HQ;have hbsz:=(zu HT).size
       have HFX:=hide (show g < wr.heap.size + 2 ∧ gc < wr.heap.size + 2 ∧ bm < wr.heap.size + 2 ∧ w.heap.size < wr.heap.size + 2 ∧ WA.heap.size < wr.heap.size + 2 ∧ p < wr.heap.size + 2 ∧ B ≤ wr.heap.size + 2 by
        have:=(zu HV).lt;have:=(zu HVF).lt
        omega)
       have HOD:=hide (show (∀ q,(Value.slice ue (n + 1) ce).ownBlock = some q → q < wr.heap.size + 2) ∧ (∀ q,tD.ownBlock = some q → q < wr.heap.size + 2) from ⟨fun q e => by have:=(own_ge (zu HQ).dn q e).2;omega,fun q e => by have:=(own_ge (zu HQ).wk q e).2;omega⟩);have HD0:=hide (show Dq W2 gc (wr.heap.size + 2) (filI x0 nx y0 ny z0 nz fl (n + 1) C) (fun _ => False) 0 W2 from ⟨fun _ h => h.elim,rfl,rfl,rfl,by omega,by rw [filI_zero];exact ((zu HQ).bel hB2).cel,fun _ _ _ => rfl⟩);have HQW:=hide ((zu HQ).bel hB2);have HVW:=hide ((zu HV).bel hB2)
       have HFW:=hide ((zu HVF).bel hB2);have HSW:=hide ((zu HSL).bel hB2);have HTW:=hide ((zu HT).trans (Th.of_bel (hB2.mono (by omega))));have HDW:=hide (fun E (hE : E ∈ Ds) => show E < wr.heap.size ∧ W2.heap[E]? = some (.deferred (some [])) from ⟨(Array.getElem?_eq_some_iff.1 (zu HDS E hE).2).1,(hB2.block E (Array.getElem?_eq_some_iff.1 (zu HDS E hE).2).1).trans (zu HDS E hE).2⟩);have HBW:=hide (And.intro hB2 hsz);have HVR:=hide hvr;have HS2:=hide hs2;have HC:=hide hC;have H24:=hide (And.intro hx9 (And.intro hy9 hz9))
       clear hw2 hBx hB2 hvr hC hbsz hsz c0 c1 c2 c3 c4 c5 HQ HV HVF HT HPL hx9 hy9 hz9;gi_wp2
       refine range_x (R:=fun b => b = wr.heap.size + 1) (N:=nz * ny * nx) (gf:=131) (lb:=#[.pointer (some ⟨wr.heap.size + 1,0,none⟩)]) rfl (enters_of Tryz.func131 (by kernel_rfl) rfl) (fun b hb => by have:=zu HS2;omega) (plX x0 nx (x0 + nx) y0 ny (y0 + ny) z0 nz (z0 + nz) (wr.heap.size + 1) _ W2 rfl rfl rfl (zu H24).1 (zu H24).2.1 (zu H24).2.2 rfl (zu HVR)) (bfl _ _) (fun _ => rfl)
        (Dq W2 gc (wr.heap.size + 2) (filI x0 nx y0 ny z0 nz fl (n + 1) C)) (fun _ _ _ => False) (fun O O' k A A' h hg hO => h.on hg hO (zu HFX).2.1) (fun _ _ _ _ _ h _ _ => h)
        (zu HD0)
        (fun O k a' X => ∃ (b9 : Nat) (s0 s1 s2 s4 s5 s7 s8 s10 s11 s12 s13 s14 s15 s16 s17 s18 s19 s20 s21 s22 s23 s24 s25 s26 s27 s28 s29 s30 s31 s32 s33 s34 s35 s36 s37 s38 s39 s40 s41 s42 s43 s44 s45 s46 s47 s48 s49 s50 s51 s52 s53 s54 s55 s56 s57 s58 s59 s60 s61 s62 s63 s64 s65 s66 s67 s68 s69 s70 s71 s72 s73 s74 s75 : Value),vb X b9 156 [.int .i64 (pX x0 nx k : Int),.int .i64 (pY y0 nx ny k : Int),.int .i64 (pZ z0 nx ny k : Int)] ∧ ¬ O b9 ∧ wr.heap.size + 2 ≤ b9 ∧ a' = ({ tmps:=#[s0,s1,s2,.pointer (some ⟨w.heap.size,0,none⟩),s4,s5,.pointer (some ⟨WA.heap.size,0,none⟩),s7,s8,.pointer (some ⟨b9,0,none⟩),s10,s11,s12,s13,s14,s15,s16,s17,s18,s19,s20,s21,s22,s23,s24,s25,s26,s27,s28,s29,s30,s31,s32,s33,s34,s35,s36,s37,s38,s39,s40,s41,s42,s43,s44,s45,s46,s47,s48,s49,s50,s51,s52,s53,s54,s55,s56,s57,s58,s59,s60,s61,s62,s63,s64,s65,s66,s67,s68,s69,s70,s71,s72,s73,s74,s75],defers:=[] } : Act))
        (fun O k a' A A' h hg => by obtain ⟨b9,s0,s1,s2,s4,s5,s7,s8,s10,s11,s12,s13,s14,s15,s16,s17,s18,s19,s20,s21,s22,s23,s24,s25,s26,s27,s28,s29,s30,s31,s32,s33,s34,s35,s36,s37,s38,s39,s40,s41,s42,s43,s44,s45,s46,s47,s48,s49,s50,s51,s52,s53,s54,s55,s56,s57,s58,s59,s60,s61,s62,s63,s64,s65,s66,s67,s68,s69,s70,s71,s72,s73,s74,s75,h1,h2,h3,h4⟩:=h;exact ⟨b9,s0,s1,s2,s4,s5,s7,s8,s10,s11,s12,s13,s14,s15,s16,s17,s18,s19,s20,s21,s22,s23,s24,s25,s26,s27,s28,s29,s30,s31,s32,s33,s34,s35,s36,s37,s38,s39,s40,s41,s42,s43,s44,s45,s46,s47,s48,s49,s50,s51,s52,s53,s54,s55,s56,s57,s58,s59,s60,s61,s62,s63,s64,s65,s66,s67,s68,s69,s70,s71,s72,s73,s74,s75,(hg.block _ h1.lt h2).trans h1,h2,h3,h4⟩) ?assign ?body ?done ?stop
       case assign =>
        intro l O k X K hk hO hi hK;have HK:=hide hK;have HI2:=hide hi;clear hK hi;rw [plk_p];gi_wp2;have hA : Below X.heap.size X (X.alloc (.cells #[.int .i64 (pX x0 nx k : Int),.int .i64 (pY y0 nx ny k : Int),.int .i64 (pZ z0 nx ny k : Int)] 156)):=ba (bfl _ _) _
        exact zu HK _ _ (Kpx.of_bel hA) ((zu HI2).on (Grw.of_bel hA) (fun b hb => .inl hb) (zu HFX).2.1) ⟨X.heap.size,_,_,_,_,_,_,_,_,_,_,_,_,_,_,_,_,_,_,_,_,_,_,_,_,_,_,_,_,_,_,_,_,_,_,_,_,_,_,_,_,_,_,_,_,_,_,_,_,_,_,_,_,_,_,_,_,_,_,_,_,_,_,_,_,_,_,_,_,_,_,_,_,_,vb_new X 156 _ _ rfl,fun h => by have:=(hO _ h).2;omega,(zu HI2).big,rfl⟩
       case body =>
        rintro l O q a' X _ hOl hk hO hi ⟨b9,s0,s1,s2,s4,s5,s7,s8,s10,s11,s12,s13,s14,s15,s16,s17,s18,s19,s20,s21,s22,s23,s24,s25,s26,s27,s28,s29,s30,s31,s32,s33,s34,s35,s36,s37,s38,s39,s40,s41,s42,s43,s44,s45,s46,s47,s48,s49,s50,s51,s52,s53,s54,s55,s56,s57,s58,s59,s60,s61,s62,s63,s64,s65,s66,s67,s68,s69,s70,s71,s72,s73,s74,s75,h9,hn9,hl9,rfl⟩;obtain ⟨hpl,hpi,_⟩:=plN_in (zu H24).1 (zu H24).2.1 (zu H24).2.2 hk;obtain ⟨hfs,hfe⟩:=filI_succ fl (n + 1) C (zu H24).1 (zu H24).2.1 (zu H24).2.2 hk
        obtain ⟨kk,hkk⟩ : ∃ j,plN x0 nx y0 ny z0 q = j:=⟨_,rfl⟩
        rw [hkk] at hpl hpi hfs hfe;have HCN:=hide (fun W => cellNo_any (pX x0 nx q) (pY y0 nx ny q) (pZ z0 nx ny q) W (by have h2:=div_lt3 hk;have:=zu H24;unfold pX;omega) (by have h2:=div_lt3 hk;have:=zu H24;unfold pY;omega) (by have h2:=div_lt3 hk;have:=zu H24;unfold pZ;omega));rw [show at3 (pX x0 nx q) (pY y0 nx ny q) (pZ z0 nx ny q) = kk from hkk] at HCN;unfold plv at HCN
        obtain ⟨cc,hcc⟩ : ∃ c,filI x0 nx y0 ny z0 nz fl (n + 1) C q = c:=⟨_,rfl⟩
        have HI2:=hide hi;have hkpg : ∀ z,z < W2.heap.size → z ≠ gc → X.heap[z]? = W2.heap[z]?:=fun z hz hz2 => hi.kp z (by have:=zu HS2;omega) hz2
        have hq:=(zu HQW).cells hi.cel hkpg h2 n1 n3;have HIV3:=hide (hi.vb (zu HVW) (zu HS2) (by have:=(zu HFX).2.1;omega));have HIV6:=hide (hi.vb (zu HFW) (zu HS2) (by have:=(zu HFX).2.1;omega));rw [hcc] at hq hfs hfe;have HQ2:=hide hq;have HE2:=hide hfe;have HF2:=hide hfs;have HKK:=hide hpl;have H9:=hide h9;clear hkpg hi hq hfe hfs hpi hkk hcc h9 hpl;gi_wp2
        refine wpIn_mono (pd10 (kk:=kk) (hide ((zu HIV3).cell (m:=0) rfl)) (hide ((zu HQ2).blk.cell (m:=0) rfl)) (hide ((zu H9).cell (m:=0) rfl)) (hide ((zu H9).cell (m:=1) rfl)) (hide ((zu H9).cell (m:=2) rfl)) (hide fun X _ => zu HCN X) HKK ?r10) (Only.to (fun _ _ h => h))
        case r10 =>
         intro W1 hb1;have HB1:=hide hb1;have HQ3:=hide ((zu HQ2).bel hb1);have HV3:=hide ((zu HIV6).bel hb1);have HV4:=hide ((zu HIV3).bel hb1);clear hb1
         obtain ⟨fb,hfb⟩ : ∃ r,cc.full kk = r:=⟨_,rfl⟩
         have hcf:=csl_f cc (zu HKK);rw [hfb] at hcf;gi_wp2;refine wpIn_mono (pd11 (fb:=fb) (fl:=fl) (hide ((zu HQ3).cel.cell hcf)) (hide ((zu HV3).cell (m:=0) rfl)) ?r11) (Only.to (fun _ _ h => h))
         case r11 =>
          intro W4 hb4;have HB4:=hide (bc (zu HB1) hb4);have HQ4:=hide ((zu HQ3).bel hb4);have HV5:=hide ((zu HV3).bel hb4);have HV6:=hide ((zu HV4).bel hb4);clear hb4
          cases hd : fb != fl with
          | false =>
           have hff : fb = fl:=by simpa using hd
           gi_wp2
           have hsame : filI x0 nx y0 ny z0 nz fl (n + 1) C (q + 1) = cc:=by
            rw [zu HE2];have e1 : C.full kk = fl:=by rw [← zu HF2,hfb,hff]
            have e2 : cc.full kk = fl:=hfb.trans hff
            cases cc with
            | mk ff bb =>
             simp only at e2
             congr 1
             ·funext z
              by_cases e : z = kk
              ·rw [if_pos e,e,e2]
              ·rw [if_neg e]
             ·funext z
              by_cases e : z = kk
              ·rw [if_pos e,if_pos e1]
              ·rw [if_neg e]
           have hB:=zu HB4;have h:=zu HI2;exact ⟨Kpx.of_bel hB,h.far,hB.os.trans h.os,hB.tape.trans h.tape,hB.output.trans h.output,Nat.le_trans h.big hB.size,by rw [hsame];exact (zu HQ4).cel,fun z hz hz2 => (hB.block z (by have:=h.big;omega)).trans (h.kp z hz hz2)⟩
          | true =>
           have hff : fb ≠ fl:=by simpa using hd
           have hcb:=csl_b cc (zu HKK);gi_wp2;refine wpIn_mono (pd12 (n:=n + 1) (hide ((zu HV6).cell (m:=0) rfl)) (hide ((zu HQ4).blk.cell (m:=1) rfl)) (hide ((zu HV5).cell (m:=0) rfl)) (zu HQ4).cel.lt (hide ((zu HQ4).cel.cell hcf)) (hide ((zu HQ4).cel.cell hcb)) (hide (zu HQ4).cel.frozen) ?r12) (Only.to (fun _ _ h => h))
           case r12 =>
            intro W5 W9 hw9 hb5;have hq5:=(zu HQ4).bel hb5;have hB:=bc (zu HB4) hb5
            have hk9 : ∀ j,j < W5.heap.size → j ≠ gc → W9.heap[j]? = W5.heap[j]?:=by
             intro z _ hz;rw [hw9,Below.heap_setCell _ _ _ _ hz,Below.heap_setCell _ _ _ _ hz]
            have hs9 : W9.heap.size = W5.heap.size:=by rw [hw9];simp
            have hvc : vb W9 gc 141 (csl (filI x0 nx y0 ny z0 nz fl (n + 1) C (q + 1))):=by
             have h9:=(hq5.cel.set (kk * 2) (.bool fl)).set (kk * 2 + 1) (.int .i64 ((n + 1 : Nat) : Int))
             rw [csl_put cc (filI x0 nx y0 ny z0 nz fl (n + 1) C (q + 1)) kk fl (n + 1) (by rw [zu HE2]) (by
              rw [zu HE2];have e1 : ¬ C.full kk = fl:=by rw [← zu HF2,hfb];exact hff
              simp only [if_neg e1])] at h9
             rw [hw9];exact h9
            have hq9:=hq5.cells hvc hk9 h2 n1 n3;have h:=zu HI2;have hfx:=zu HFX;have hbig:=h.big;have hsB:=hB.size;have hK9 : ∀ z,z < X.heap.size → z ≠ gc → W9.heap[z]? = X.heap[z]?:=fun z hz hz2 => (hk9 z (by omega) hz2).trans (hB.block z hz)
            gi_wp2;have o9 : W9.os = X.os:=by rw [hw9];exact hB.os
            have t9 : W9.tape = X.tape:=by rw [hw9];exact hB.tape
            have p9 : W9.output = X.output:=by rw [hw9];exact hB.output
            refine ⟨⟨o9,t9,p9,by omega,fun z hz hzl => hK9 z hzl ?_⟩,h.far,o9.trans h.os,t9.trans h.tape,p9.trans h.output,by omega,hq9.cel,fun z hz hz2 => (hK9 z (by omega) hz2).trans (h.kp z hz hz2)⟩
            rcases hz with e | e
            ·have:=hfx.2.1;have:=(zu HQ4).cel.lt;intro e2;have e3 : z = wr.heap.size + 1:=e;have:=(zu HBW).2;have:=(zu HGB).2.1;omega
            ·have:=h.far z e;omega
       case done =>
        intro O E X hE hi hK hOE;have hkpg : ∀ z,z < W2.heap.size → z ≠ gc → X.heap[z]? = W2.heap[z]?:=fun z hz hz2 => hi.kp z (by have:=zu HS2;omega) hz2
        have hq:=(zu HQW).cells hi.cel hkpg h2 n1 n3;have hgcs:=(zu HFX).2.1
        have hfil : filI x0 nx y0 ny z0 nz fl (n + 1) C (nz * ny * nx) = (L.take (j + 1)).foldl (fun c b => fil b fl (n + 1) c) D.cs:=by
         rw [filI_all _ _ _ _ _ _ _ _ _ (zu H24).2.2,fil_take (zu HX),zu HC]
        rw [hfil] at hq;have HQZ:=hide hq;have HVZ:=hide (hi.vb (zu HVW) (zu HS2) (by have:=(zu HGB).2.1;have:=(zu HBW).2;omega));have HFZ:=hide (hi.vb (zu HFW) (zu HS2) (by have:=(zu HGB).2.1;have:=(zu HBW).2;omega));have HSZ2:=hide (hi.sl (zu HSW) (zu HS2) (fun _ => hpn));have HTZ:=hide ((zu HTW).trans (show Th g gc bm B W2 X from ⟨hi.os,hi.tape,hi.output,by have:=hi.big;have:=zu HS2;omega,fun z hz h1' h2' _ => hkpg z (by have:=zu HS2;have:=(zu HFX).2.2.2.2.2.2;omega) h2'⟩))
        have HDZ:=hide (fun F (hF : F ∈ E :: Ds) => show WB.heap.size ≤ F ∧ X.heap[F]? = some (.deferred (some [])) by
         rcases List.mem_cons.1 hF with rfl | hF
         ·exact ⟨by have:=zu HS2;have:=(zu HBW).2;omega,hK⟩
         ·have h9:=zu HDW F hF
          have h8:=(zu HDS F hF).1
          exact ⟨h8,(hkpg F (by have:=zu HS2;omega) (by have:=(zu HGB).2.1;omega)).trans h9.2⟩)
        have HNZ:=hide (show (E :: Ds).Nodup from List.nodup_cons.2 ⟨fun hF => by have:=(zu HDW E hF).1;have:=zu HS2;omega,zu HND⟩);have HBZ:=hide (show WB.heap.size ≤ X.heap.size by have:=hi.big;have:=(zu HBW).2;omega);clear hkpg hq hi hK hOE hfil;gi_wp2;refine ⟨⟨j + 1,E :: Ds,_,_,_,_,_,_,_,_,_,_,_,_,_,_,_,_,_,_,_,_,_,_,_,_,_,_,_,_,_,_,_,_,_,_,_,_,_,_,_,_,_,_,_,_,_,_,_,_,_,_,_,_,_,_,_,_,_,_,_,_,_,_,_,_,_,_,_,_,_,_,_,rfl,zu HI,zu HNZ,zu HDZ,zu HQZ,zu HVZ,zu HFZ,zu HTZ,zu HSZ2,zu HBZ⟩,?_⟩
        have:=zu HI;simp [intOf];omega
       case stop =>
        intro O D k W _ _ h;exact h.elim
      ·obtain rfl : j = m:=by omega
       have iz : decide ((j : Int) < (j : Int)) = false:=df (by omega);gi_wp2;refine leaves_marks (N:=WB.heap.size) Ds wr (zu HND) (zu HDS) (fun w' hw' => ?_);have hgb:=zu HGB;have hq':=(zu HQ).lo hw' hgb.1 hgb.2.1 hgb.2.2.1 (zu HOB).1 (zu HOB).2;rw [List.take_of_length_le (Nat.le_of_eq (zu HL)),← zu HHO,← zu HHK,← zu HOE,← zu HKE] at hq';refine ⟨_,results_none rfl _ _ _,rfl,⟨.slice ue (n + 1) ce,tD,?_⟩,(zu HT).trans (Th.of_bel (hw'.mono hgb.2.2.2))⟩;rw [zu HFE,zu HNN]
       refine Pq.m (ws:=ws ++ [k]) (l:=D.done ++ [i]) ?_ (by rw [List.length_append,List.length_append,zu HLN];rfl);rw [onm_app,zu HNM,List.map_append,List.map_singleton,zu HKV];exact hq'
end Go.Proofs.YtkiplmabjeadgaaGreat
