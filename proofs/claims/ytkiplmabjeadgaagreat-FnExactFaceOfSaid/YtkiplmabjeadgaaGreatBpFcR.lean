/- The program's face. -/
import Derived.Test.YtkiplmabjeadgaaGreatBpPcR
import Derived.Test.YtkiplmabjeadgaaGreatSqXR
import Derived.Test.YtkiplmabjeadgaaGreatBxKeyR
import Derived.Test.YtkiplmabjeadgaaGreatAppInR
namespace Go.Proofs.YtkiplmabjeadgaaGreat
set_option maxRecDepth 100000
set_option maxHeartbeats 16000000
open Go.ChangeShapes Go.WideShapes Go.ChangeAt Go.RowKit Go.Shelf Go.Maps Go.WideMaps
attribute [local go_sem] Oper.semAt_some
set_option linter.unusedVariables false
set_option linter.unusedSimpArgs false
noncomputable def fcI (nm : ByteArray) (sd : Int) (l : List Bx) : Value:=open Classical in if l = [] then fcN ⟨#[]⟩ 0 0 0 bx0 else fcN nm sd (l.length : Int) ((pcs (tcP l) l.length l.length : Nat) : Int) (hul l)
theorem faceOf_int (nm : ByteArray) (sd : Int) (l : List Bx) (n cu p po : Nat) (u : Option Addr) (w : World) (hl : l.length = n) (hn : n ≤ 100000) (hnd : l.Nodup) (hsm : ∀ b ∈ l,bxS 1000 b) (hu : SlG bxc 6 w u p po l) (h0 : sd < 0 → l = []) :
  Calls Tryz.prog 89 #[.string nm,.int .i64 sd,.slice u n cu] w fun e w' => e = .returned (fcI nm sd l) ∧ Below w.heap.size w w':=by
 by_cases hs : 0 ≤ sd
 ·obtain ⟨k,rfl⟩ : ∃ k : Nat,sd = (k : Int):=⟨sd.toNat,by omega⟩
  exact faceOf_any nm k l n cu p po u w hl hn hnd hsm hu
 ·have hl0:=h0 (by omega)
  have hn0 : n = 0:=by rw [← hl,hl0];rfl
  have e0 : ((n : Int) == 0) = true:=by rw [hn0];rfl
  have hfc : fcI nm sd l = fcN ⟨#[]⟩ 0 0 0 bx0:=by unfold fcI;rw [if_pos hl0]
  rw [hfc];unfold fcN bx0;clear hfc hu hsm hnd hl h0 hl0 hn0 hs;go_enter Tryz.func89,Tryz.ntmps89;go_wp2_with fail;refine bodyPost_ret (v:=.agg #[.string ⟨#[]⟩,.int .i64 0,.int .i64 0,.int .i64 0,.int .i64 0,.int .i64 0,.int .i64 0,.int .i64 0,.int .i64 0,.int .i64 0]) (by simp [results,Tryz.results89,go_sem];done) rfl ?_;refine ⟨rfl,?_⟩
  repeat (first | exact bfl _ _ | refine Below.setCell ?_ (Nat.le_refl _) _ | refine Below.setCell ?_ (by simp) _ | refine ba ?_ _)
def ofI (l : List Sq) (n : Nat) (s : Int) : List Bx:=(l.filter fun q => q.nb == n && (q.sd : Int) == s).map Sq.bx
theorem ofI_nat (l : List Sq) (n s : Nat) : ofI l n (s : Int) = ofO l n s:=by
 unfold ofI ofO
 congr 1
 apply List.filter_congr;intro q _
 congr 1
 rw [Bool.eq_iff_iff];simp only [beq_iff_eq];omega
theorem ofI_take {l : List Sq} {i : Nat} {q : Sq} (h : l[i]? = some q) (n : Nat) (s : Int) : ofI (l.take (i + 1)) n s = ofI (l.take i) n s ++ (if (q.nb == n && (q.sd : Int) == s) = true then [q.bx] else []):=by
 unfold ofI;rw [List.take_add_one,h,Option.toList_some,List.filter_append,List.map_append,List.filter_cons]
 split <;> simp
def z43 : List Value:=[.string ⟨#[]⟩,.int .i64 0,.int .i64 0,.int .i64 0,.int .i64 0,.int .i64 0,.int .i64 0,.int .i64 0,.int .i64 0,.int .i64 0]
structure Fq (w : World) (nb : Nat) (sd : Int) (L : List Sq) (O : Nat → Prop) (k : Nat) (X : World) : Prop where
 far : ∀ b,O b → w.heap.size + 4 ≤ b
 res : vb X w.heap.size 43 z43
 wnt : vb X (w.heap.size + 1) 147 [.int .i64 (nb : Int),.int .i64 sd]
 row : ∃ v,vb X (w.heap.size + 2) 148 [v] ∧ X.ownsRow (w.heap.size + 4) 41 6 v (ofI (L.take k) nb sd).length (flatG bxc (ofI (L.take k) nb sd)) ∧ ∀ g,v.ownBlock = some g → ¬ O g
 bel : Below w.heap.size w X
 big : w.heap.size + 4 ≤ X.heap.size
theorem Fq.on {w : World} {nb : Nat} {sd : Int} {L : List Sq} {O O' : Nat → Prop} {k : Nat} {A B : World} (h : Fq w nb sd L O k A) (hg : Grw O A B) (hO : ∀ b,O' b → O b ∨ A.heap.size ≤ b) : Fq w nb sd L O' k B:=by
 obtain ⟨v,hv,hr,hn⟩:=h.row;have hbig:=h.big;have hbel : Below (w.heap.size + 4) A B:=hg.bel hbig h.far;refine ⟨fun b hb => (hO b hb).elim (h.far b) (fun h => by omega),h.res.below hbel (by omega),h.wnt.below hbel (by omega),⟨v,hv.below hbel (by omega),own_kept hr (fun g hg' => hg.block g (own_ge hr g hg').2 (hn g hg')),fun g hg' ho => (hO g ho).elim (hn g hg') (fun h => by have:=(own_ge hr g hg').2;omega)⟩,h.bel.trans (hbel.mono (by omega)),Nat.le_trans hbig hg.size⟩
theorem faceI_any (g gc bm cap : Nat) (vd vw : Value) (fs : List Ft) (l : List Nat) (c : Cs) (nm : ByteArray) (sd : Int) (nb : Nat) (lf : List Bx) (w : World) (hg : vb w g 84 [.slice (some ⟨gc,0,none⟩) 13824 13824,vd,vw,.map (some bm)]) (hc : vb w gc 141 (csl c)) (hm : MpN w bm cap fs l) (hnm : nm.size ≤ maxLen)
  (hnb : byOf fs l nm = nb) (hlf : ofI (sqPs c 13824) nb sd = lf) (hnd : lf.Nodup) (hsm : ∀ b ∈ lf,bxS 1000 b) (hln : lf.length ≤ 100000) (hng : sd < 0 → lf = []) :
  Calls Tryz.prog 55 #[.pointer (some ⟨g,0,none⟩),.string nm,.int .i64 sd] w fun e w' => e = .returned (fcI nm sd lf) ∧ Below w.heap.size w w':=by
 refine (callsIn_wide (n:=0)).1 ?_;obtain ⟨iT,ht,ht0,ht1,ht2⟩:=info_parts info65;have hlk:=hm.bel (ba (bfl w.heap.size w) (.cells z43.toArray 43)) |>.look nm hnm;rw [hnb] at hlk;have HLF:=hide hlf;have HND:=hide hnd;have HSM:=hide hsm;have HLN:=hide hln;have HNG:=hide hng;have HGL:=hide (And.intro hg.lt hc.lt);have k3:=hg.cell (m:=3) rfl;have hgl:=hg.lt
 have HSQX:=hide (fun (R : Nat → Prop) X (hX : Below w.heap.size w X) (Bg : Nat) (h1 : R g) (h2 : R gc) (h3 : R Bg) (hB : vb X Bg 77 [.pointer (some ⟨g,0,none⟩)]) => sqX g gc Bg vd vw (.map (some bm)) c R X h1 h2 h3 hB (hg.bel hX) (hc.bel hX));have HSC:=hide (fun X => squares_any g X);have heq:=eqO;unfold z43 at hlk;clear hg hc hm hnm hnb hlf hnd hsm hln hng;refine callsIn_of_wp_marks Tryz.func55 rfl trivial ?_ rfl
 simp only [Tryz.ntmps55,List.size_toArray,List.length_cons,List.length_nil,Nat.reduceAdd,Nat.reduceSub,Array.replicate_succ,Array.replicate_zero,List.push_toArray,List.append_toArray,List.nil_append,List.cons_append];gi_wp2
 obtain ⟨W0,hW0⟩ : ∃ X,X = (((w.alloc (.cells #[.string ⟨#[]⟩,.int .i64 0,.int .i64 0,.int .i64 0,.int .i64 0,.int .i64 0,.int .i64 0,.int .i64 0,.int .i64 0,.int .i64 0] 43)).alloc (.cells #[.int .i64 (nb : Int),.int .i64 sd] 147)).alloc (.cells #[.slice none 0 0] 148)):=⟨_,rfl⟩
 have hb0 : Below w.heap.size w W0:=by rw [hW0];exact ba (ba (ba (bfl _ _) _) _) _
 have hr0 : vb W0 w.heap.size 43 z43:=by rw [hW0];exact (vb_new w 43 _ _ rfl).bel (ba (ba (bfl _ _) _) _)
 have hw0 : vb W0 (w.heap.size + 1) 147 [.int .i64 (nb : Int),.int .i64 sd]:=by rw [hW0];exact (vb_new (w.alloc (.cells #[.string ⟨#[]⟩,.int .i64 0,.int .i64 0,.int .i64 0,.int .i64 0,.int .i64 0,.int .i64 0,.int .i64 0,.int .i64 0,.int .i64 0] 43)) 147 _ _ (by simp)).bel (ba (bfl _ _) _)
 have hv0 : vb W0 (w.heap.size + 2) 148 [.slice none 0 0]:=by rw [hW0];exact vb_new _ 148 _ _ (by simp)
 have hs0 : W0.heap.size = w.heap.size + 3:=by rw [hW0];simp
 rw [← hW0];clear hW0;have HB0:=hide hb0;have HR0:=hide hr0;have HW0:=hide hw0;have HV0:=hide hv0;have HS0:=hide hs0;clear hb0 hr0 hw0 hv0 hs0 k3 hlk;refine ⟨trivial,rfl,(callsIn_wide.2 (zu HSC _)).mono ?_⟩;rintro _ W1 ⟨rfl,hw1⟩;have hA : Below W0.heap.size W0 W1:=by rw [hw1];exact ba (bfl _ _) _
 have HB1:=hide (bc (zu HB0) hA);have HR1:=hide ((zu HR0).bel hA);have HWN1:=hide ((zu HW0).bel hA);have HV1:=hide ((zu HV0).bel hA);have HBG:=hide (show vb W1 (w.heap.size + 3) 77 [.pointer (some ⟨g,0,none⟩)] by rw [hw1];exact vb_new W0 77 _ _ (zu HS0).symm);have HS1:=hide (show W1.heap.size = w.heap.size + 4 by rw [hw1];simp;exact zu HS0);rw [zu HS0];clear hw1 hA HB0 HR0 HW0 HV0 HS0 HSC;gi_wp2
 refine range_x (R:=fun b => b = g ∨ b = gc ∨ b = w.heap.size + 3) (N:=(sqPs c 13824).length) (gf:=119) (lb:=#[.pointer (some ⟨w.heap.size + 3,0,none⟩)]) rfl (enters_of Tryz.func119 (by kernel_rfl) rfl) (fun b hb => by have h1:=zu HS1;have h2:=zu HGL;omega) (zu HSQX _ W1 (zu HB1) (w.heap.size + 3) (.inl rfl) (.inr (.inl rfl)) (.inr (.inr rfl)) (zu HBG)) (bfl _ _) (fun k => by unfold sqEnc sqe;rfl)
  (Fq w nb sd (sqPs c 13824)) (fun _ _ _ => False) (fun O O' k A B h hg hO => h.on hg hO) (fun _ _ _ _ _ h _ _ => h)
  ⟨fun _ h => h.elim,zu HR1,zu HWN1,⟨_,zu HV1,by rw [List.take_zero];exact World.ownsRow_nil _ _ _ _,fun _ _ h => h⟩,zu HB1,Nat.le_of_eq (zu HS1).symm⟩
  (fun O k a' X => ∃ q b9 b10,(sqPs c 13824)[k]? = some q ∧ vb X b9 147 [.int .i64 (q.nb : Int),.int .i64 (q.sd : Int)] ∧ ¬ O b9 ∧ vb X b10 41 (bxc q.bx) ∧ ¬ O b10 ∧ w.heap.size + 4 ≤ b9 ∧ w.heap.size + 4 ≤ b10 ∧ a' = ({ tmps:=#[.pointer (some ⟨g,0,none⟩),.string nm,.int .i64 sd,undef,undef,undef,.pointer (some ⟨w.heap.size,0,none⟩),.pointer (some ⟨w.heap.size + 1,0,none⟩),.pointer (some ⟨w.heap.size + 1 + 1,0,none⟩),.pointer (some ⟨b9,0,none⟩),.pointer (some ⟨b10,0,none⟩),.pointer (some ⟨g,0,none⟩),.pointer (some ⟨g,0,none⟩),.pointer (some ⟨g,3,none⟩),.map (some bm),.string nm,.int .i64 (nb : Int),.int .i64 sd,.agg #[.int .i64 (nb : Int),.int .i64 sd],.pointer (some ⟨g,0,none⟩),.func (.func 119) #[] #[.pointer (some ⟨w.heap.size + 3,0,none⟩)],.agg #[.int .i64 (q.nb : Int),.int .i64 (q.sd : Int)],bxv q.bx,undef,undef,undef,undef,undef,undef,undef,undef,undef,undef,undef],defers:=[] } : Act))
  (fun O k a' A B h hg => by obtain ⟨q,b9,b10,h0,h1,h2,h3,h4,h5,h6,h7⟩:=h;exact ⟨q,b9,b10,h0,(hg.block _ h1.lt h2).trans h1,h2,(hg.block _ h3.lt h4).trans h3,h4,h5,h6,h7⟩) ?assign ?body ?done ?stop
 case assign =>
  intro l O k X K hk hO hi hK
  obtain ⟨q,hq⟩ : ∃ q,(sqPs c 13824)[k]? = some q:=⟨_,List.getElem?_eq_getElem hk⟩
  have HK:=hide hK;have HI:=hide hi;have HQ:=hide hq;clear hK hi;rw [sqEnc_at hq];obtain ⟨qn,qs,q0,q1,q2,q3,q4,q5⟩:=q;unfold sqe bxv;simp only;clear hq;gi_wp2;have hA : Below X.heap.size X ((X.alloc (.cells #[.int .i64 (qn : Int),.int .i64 (qs : Int)] 147)).alloc (.cells #[.int .i64 q0,.int .i64 q1,.int .i64 q2,.int .i64 q3,.int .i64 q4,.int .i64 q5] 41)):=ba (ba (bfl _ _) _) _
  exact zu HK _ _ (Kpx.of_bel hA) ((zu HI).on (Grw.of_bel hA) (fun b hb => .inl hb)) ⟨⟨qn,qs,q0,q1,q2,q3,q4,q5⟩,X.heap.size,X.heap.size + 1,zu HQ,(vb_new X 147 _ _ rfl).bel (ba (bfl _ _) _),fun h => by have:=(hO _ h).2;omega,vb_new (X.alloc (.cells #[.int .i64 (qn : Int),.int .i64 (qs : Int)] 147)) 41 _ _ (by simp),fun h => by have:=(hO _ h).2;omega,(zu HI).big,by have:=(zu HI).big;omega,rfl⟩
 case body =>
  rintro l O k a' X _ hOl hk hO hi ⟨q,b9,b10,hq,h9,hn9,h10,hn10,hl9,hl10,rfl⟩;obtain ⟨v,hv,hr,hnO⟩:=hi.row;have HTK:=hide (ofI_take hq nb sd)
  have HLE:=hide (show (ofI ((sqPs c 13824).take k) nb sd).length ≤ 100000 by
   have h1 : ((((sqPs c 13824).take k).filter fun q => q.nb == nb && (q.sd : Int) == sd).map Sq.bx).length ≤ (((sqPs c 13824).filter fun q => q.nb == nb && (q.sd : Int) == sd).map Sq.bx).length:=by
    rw [List.length_map,List.length_map];exact ((List.take_sublist k _).filter _).length_le
   have h2:=zu HLN;have h3:=zu HLF;unfold ofI at h3 ⊢;rw [h3] at h1
   exact Nat.le_trans h1 h2)
  obtain ⟨u,cap,rfl,hcp,hcm,_⟩:=own_form hr
  obtain ⟨M,hM⟩ : ∃ M,ofI ((sqPs c 13824).take k) nb sd = M:=⟨_,rfl⟩
  obtain ⟨M',hM'⟩ : ∃ M,ofI ((sqPs c 13824).take (k + 1)) nb sd = M:=⟨_,rfl⟩
  rw [hM] at hr hv HTK HLE hcp hnO;rw [hM'] at HTK;have HMM:=hide hM'
  obtain ⟨n,hn⟩ : ∃ n,M.length = n:=⟨_,rfl⟩
  rw [hn] at hr hv HLE hcp hnO;have HN:=hide hn;obtain ⟨qn,qs,q0,q1,q2,q3,q4,q5⟩:=q;have p0:=h9.cell (m:=0) rfl;have p1:=h9.cell (m:=1) rfl;have w0:=hi.wnt.cell (m:=0) rfl;have w1:=hi.wnt.cell (m:=1) rfl;have d0:=h10.cell (m:=0) rfl;have d1:=h10.cell (m:=1) rfl;have d2:=h10.cell (m:=2) rfl;have d3:=h10.cell (m:=3) rfl;have d4:=h10.cell (m:=4) rfl;have d5:=h10.cell (m:=5) rfl;unfold bxc at h10;have c0:=hv.cell (m:=0) rfl;have cf:=hv.frozen;have hsz:=hv.lt;have hll:=h10.lt;have HI:=hide hi;have HV:=hide hv;have HR:=hide hr
  have HNO:=hide hnO;unfold bxv;simp only at HTK ⊢;clear hi hv hr hnO h9 h10 hq hM hM' hn hcp hcm HLF HND HSM HLN
  have HE1 : Hid ((qn == nb && (qs : Int) == sd) = (((qn : Int) == (nb : Int)) && ((qs : Int) == sd))):=hide (by
   congr 1 <;> (rw [Bool.eq_iff_iff];simp only [beq_iff_eq];omega))
  cases he : ((qn : Int) == (nb : Int)) && ((qs : Int) == sd) with
  | false =>
   rw [he] at HE1;gi_wp2
   have hM9 : M' = M:=by
    have h1:=zu HTK;have h2 : (qn == nb && (qs : Int) == sd) = false:=zu HE1;rw [h2] at h1
    simpa using h1
   have h:=zu HI;exact ⟨Kpx.refl _ _ _,h.far,h.res,h.wnt,⟨_,zu HV,by rw [zu HMM,hM9,zu HN];exact zu HR,zu HNO⟩,h.bel,h.big⟩
  | true =>
   rw [he] at HE1;have HRA:=hide (own_kept (w':=X.alloc (.cells #[.int .i64 q0,.int .i64 q1,.int .i64 q2,.int .i64 q3,.int .i64 q4,.int .i64 q5] 41)) (zu HR) (fun gg hgg => Below.heap_alloc _ _ _ (own_ge (zu HR) gg hgg).2));have hA : Below X.heap.size X (X.alloc (.cells #[.int .i64 q0,.int .i64 q1,.int .i64 q2,.int .i64 q3,.int .i64 q4,.int .i64 q5] 41)):=ba (bfl _ _) _
   have HBW : Hid (∀ wz,(X.alloc (.cells #[.int .i64 q0,.int .i64 q1,.int .i64 q2,.int .i64 q3,.int .i64 q4,.int .i64 q5] 41)).grownBy wz (Value.slice u n cap).ownBlock → vb wz (w.heap.size + 2) 148 [.slice u n cap]):=hide (fun wz hg => (hg.block _ ((zu HV).bel hA).lt (fun e => by have:=(own_ge (zu HR) _ e.symm).1;omega)).trans ((zu HV).bel hA));have hbig:=(zu HI).big
   gi_wp2_with (gi_at_builtin;refine listIn_append_new _ rfl _ _ 148 rfl (w.heap.size + 4) 41 iT _ 6 48 Tryz.underlying148 ht ht0 ht1 ht2 rfl (by decide) (.slice u n cap) n _ rfl (zu HRA) _ 1 1 [.int .i64 q0,.int .i64 q1,.int .i64 q2,.int .i64 q3,.int .i64 q4,.int .i64 q5] rfl rfl (by first | exact news_cells _ _ rfl | exact news_cells _ _ (by simp) | exact news_drew _ _ (by simp)) (by simp [Value.oneCell']) (by have:=zu HLE;unfold maxLen;omega) (by have:=zu HLE;omega) (by simp;omega) ?_;intro v' wz hown' hgrow hnew;obtain ⟨g',cap',rfl⟩:=ownsRow_succ hown';have HGR:=hide hgrow;have HOW:=hide hown';have HNW:=hide hnew;have bz:=(zu HBW) _ hgrow;have cz:=bz.cell (m:=0) rfl;have fz:=bz.frozen;clear hown' hgrow hnew bz)
   have hgr:=zu HGR;have how:=zu HOW;have h:=zu HI;have hbz:=zu HBW _ hgr;have hnn : ∀ b,O b → b ≠ w.heap.size + 2:=fun b hb e => by have:=h.far b hb;omega
   have hg1:=own_ge how g' rfl;have hset : ∀ (b : Nat),b ≠ w.heap.size + 2 → (wz.setCell ⟨w.heap.size + 1 + 1,0,none⟩ (.slice (some ⟨g',0,none⟩) (n + 1) cap')).heap[b]? = wz.heap[b]?:=fun b hb => Below.heap_setCell _ _ _ _ hb
   have hng : ∀ b,O b → b ≠ g':=by
    rintro b hb rfl
    rcases zu HNW b rfl with h | h
    ·exact zu HNO b h hb
    ·have:=(hO b hb).2
     simp at h;omega
   have hblk : ∀ b,b < X.heap.size → b ≠ w.heap.size + 2 → (Value.slice u n cap).ownBlock ≠ some b → (wz.setCell ⟨w.heap.size + 1 + 1,0,none⟩ (.slice (some ⟨g',0,none⟩) (n + 1) cap')).heap[b]? = X.heap[b]?:=fun b hb hb2 hb3 => (hset b hb2).trans ((hgr.block b (by simp;omega) (fun e => hb3 e.symm)).trans (Below.heap_alloc _ _ _ hb))
   have hbase : ∀ b,(Value.slice u n cap).ownBlock = some b → w.heap.size + 4 ≤ b:=fun b hb => (own_ge (zu HR) b hb).1
   have hgl:=zu HGL
   have hM9 : M' = M ++ [⟨q0,q1,q2,q3,q4,q5⟩]:=by
    have h1:=zu HTK;have h2 : (qn == nb && (qs : Int) == sd) = true:=zu HE1;rw [h2,if_pos rfl] at h1;exact h1
   refine ⟨⟨hgr.os,hgr.tape,hgr.output,by simpa using (show X.heap.size ≤ wz.heap.size by have:=hgr.size;simp at this;omega),fun b ho hb => hblk b hb (fun e => ?_) (fun e => ?_)⟩,h.far,?_,?_,⟨_,hbz.set 0 _,?_,fun gg hgg ho => by cases hgg;exact hng g' ho rfl⟩,?_,?_⟩
   ·rcases ho with (rfl | rfl | rfl) | ho
    ·omega
    ·omega
    ·omega
    ·exact hnn b ho e
   ·rcases ho with (rfl | rfl | rfl) | ho
    ·have:=hbase _ e;omega
    ·have:=hbase _ e;omega
    ·have:=hbase _ e;omega
    ·exact zu HNO b e ho
   ·exact (hblk _ h.res.lt (by omega) (fun e => by have:=hbase _ e;omega)).trans h.res
   ·exact (hblk _ h.wnt.lt (by omega) (fun e => by have:=hbase _ e;omega)).trans h.wnt
   ·rw [zu HMM,hM9,List.length_append,List.length_singleton,zu HN,flatG_append]
    exact own_kept how (fun gg hgg => by cases hgg;exact hset g' (by omega))
   ·refine h.bel.trans ⟨hgr.os,hgr.tape,hgr.output,by simpa using (show X.heap.size ≤ wz.heap.size by have:=hgr.size;simp at this;omega),fun b hb => hblk b (by have:=h.bel.size;omega) (by omega) (fun e => by have:=hbase _ e;omega)⟩
   ·have h1:=hgr.size
    have h2:=h.big;simp at h1 ⊢;omega
 case done =>
  intro O D X hD hi hK hOD;obtain ⟨v,hv,hr,hnO⟩:=hi.row;have HI:=hide hi;have HR:=hide hr;have HK:=hide hK;have HNO:=hide hnO;have c0:=hv.cell (m:=0) rfl;clear hi hr hv hnO;rw [List.take_length] at HR;obtain ⟨u,cap,rfl,hcp,hcm,_⟩:=own_form (zu HR);rw [zu HLF] at HR HNO c0
  obtain ⟨n,hn⟩ : ∃ n,lf.length = n:=⟨_,rfl⟩
  have HLN':=zu HLN;rw [hn] at HR HNO c0 HLN';obtain ⟨p,hsl⟩:=own_slG bxc_len (zu HR) hn;have HFA:=hide (faceOf_int nm sd lf n cap p 0 u X hn HLN' (zu HND) (zu HSM) hsl (zu HNG))
  obtain ⟨fnm,fs,fa,fn,⟨f0,f1,f2,f3,f4,f5⟩,hfc⟩ : ∃ nm' s' a' n' b',fcI nm sd lf = fcN nm' s' a' n' b':=by
   unfold fcI
   split
   ·exact ⟨_,_,_,_,_,rfl⟩
   ·exact ⟨_,_,_,_,_,rfl⟩
  rw [hfc] at HFA;have HFC:=hide hfc;clear hfc hsl hn hcp hcm;gi_wp2;refine ⟨trivial,rfl,(callsIn_wide.2 (zu HFA)).mono ?_⟩;rintro _ X2 ⟨rfl,hb2⟩;have HB2:=hide hb2;have HRS:=hide ((zu HI).res.bel hb2);have r0:=(zu HRS).cell (m:=0) rfl;have r1:=(zu HRS).cell (m:=1) rfl;have r2:=(zu HRS).cell (m:=2) rfl;have r3:=(zu HRS).cell (m:=3) rfl;have r4:=(zu HRS).cell (m:=4) rfl;have r5:=(zu HRS).cell (m:=5) rfl;have r6:=(zu HRS).cell (m:=6) rfl;have r7:=(zu HRS).cell (m:=7) rfl;have r8:=(zu HRS).cell (m:=8) rfl;have r9:=(zu HRS).cell (m:=9) rfl
  have rz:=(zu HRS).frozen;clear hb2 HFA;unfold fcN;gi_wp2;have HZ:=cell10 (zu HRS) (.string fnm) (.int .i64 fs) (.int .i64 fa) (.int .i64 fn) (.int .i64 f0) (.int .i64 f1) (.int .i64 f2) (.int .i64 f3) (.int .i64 f4) (.int .i64 f5);have HBZ:=bel10 (B:=w.heap.size) (w:=w) ((zu HI).bel.trans ((zu HB2).mono (zu HI).bel.size)) (Nat.le_refl _) (.string fnm) (.int .i64 fs) (.int .i64 fa) (.int .i64 fn) (.int .i64 f0) (.int .i64 f1) (.int .i64 f2) (.int .i64 f3) (.int .i64 f4) (.int .i64 f5);have hs1:=zu HS1
  have HBD:=(bel10 (B:=w.heap.size) (w:=X2) (bfl _ _) (Nat.le_refl _) (.string fnm) (.int .i64 fs) (.int .i64 fa) (.int .i64 fn) (.int .i64 f0) (.int .i64 f1) (.int .i64 f2) (.int .i64 f3) (.int .i64 f4) (.int .i64 f5))
  have hdD : ∀ v0 v1 v2 v3 v4 v5 v6 v7 v8 v9 : Value,((((((((((X2.setCell ⟨w.heap.size,0,none⟩ v0).setCell ⟨w.heap.size,1,none⟩ v1).setCell ⟨w.heap.size,2,none⟩ v2).setCell ⟨w.heap.size,3,none⟩ v3).setCell ⟨w.heap.size,4,none⟩ v4).setCell ⟨w.heap.size,5,none⟩ v5).setCell ⟨w.heap.size,6,none⟩ v6).setCell ⟨w.heap.size,7,none⟩ v7).setCell ⟨w.heap.size,8,none⟩ v8).setCell ⟨w.heap.size,9,none⟩ v9).heap[D]? = some (.deferred (some [])):=by
   intro v0 v1 v2 v3 v4 v5 v6 v7 v8 v9
   iterate 10 rw [Below.heap_setCell _ _ _ _ (show D ≠ w.heap.size by omega)]
   exact ((zu HB2).block D (Array.getElem?_eq_some_iff.1 (zu HK)).1).trans (zu HK)
  have hD9:=hdD (.string fnm) (.int .i64 fs) (.int .i64 fa) (.int .i64 fn) (.int .i64 f0) (.int .i64 f1) (.int .i64 f2) (.int .i64 f3) (.int .i64 f4) (.int .i64 f5);clear hdD HBD
  generalize ((((((((((X2.setCell ⟨w.heap.size,0,none⟩ (.string fnm)).setCell ⟨w.heap.size,1,none⟩ (.int .i64 fs)).setCell ⟨w.heap.size,2,none⟩ (.int .i64 fa)).setCell ⟨w.heap.size,3,none⟩ (.int .i64 fn)).setCell ⟨w.heap.size,4,none⟩ (.int .i64 f0)).setCell ⟨w.heap.size,5,none⟩ (.int .i64 f1)).setCell ⟨w.heap.size,6,none⟩ (.int .i64 f2)).setCell ⟨w.heap.size,7,none⟩ (.int .i64 f3)).setCell ⟨w.heap.size,8,none⟩ (.int .i64 f4)).setCell ⟨w.heap.size,9,none⟩ (.int .i64 f5)) = Wf at HZ HBZ hD9 ⊢;refine ⟨by simp,.inl ⟨_,_,rfl,run_takeDeferred hD9,?_⟩⟩
  have HZ9 : vb (Wf.putObj D (.deferred none)) w.heap.size 43 [.string fnm,.int .i64 fs,.int .i64 fa,.int .i64 fn,.int .i64 f0,.int .i64 f1,.int .i64 f2,.int .i64 f3,.int .i64 f4,.int .i64 f5]:=(World.putObj_heap_other (by omega)).trans HZ;have z0:=HZ9.cell (m:=0) rfl;have z1:=HZ9.cell (m:=1) rfl;have z2:=HZ9.cell (m:=2) rfl;have z3:=HZ9.cell (m:=3) rfl;have z4:=HZ9.cell (m:=4) rfl;have z5:=HZ9.cell (m:=5) rfl;have z6:=HZ9.cell (m:=6) rfl;have z7:=HZ9.cell (m:=7) rfl;have z8:=HZ9.cell (m:=8) rfl;have z9:=HZ9.cell (m:=9) rfl
  refine ⟨fcN fnm fs fa fn ⟨f0,f1,f2,f3,f4,f5⟩,by simp [results,Tryz.results55,go_sem,fcN,z0,z1,z2,z3,z4,z5,z6,z7,z8,z9];done,by rw [zu HFC],?_⟩;exact HBZ.trans ⟨rfl,rfl,rfl,by simp,fun b hb => World.putObj_heap_other (by omega)⟩
 case stop =>
  intro O D k W _ _ h;exact h.elim
theorem faceP_any (g gc bm cap : Nat) (vd vw : Value) (fs : List Ft) (l : List Nat) (c : Cs) (nm : ByteArray) (sd nb : Nat) (lf : List Bx) (w : World) (hg : vb w g 84 [.slice (some ⟨gc,0,none⟩) 13824 13824,vd,vw,.map (some bm)]) (hc : vb w gc 141 (csl c)) (hm : MpN w bm cap fs l) (hnm : nm.size ≤ maxLen)
  (hnb : byOf fs l nm = nb) (hlf : ofO (sqPs c 13824) nb sd = lf) (hnd : lf.Nodup) (hsm : ∀ b ∈ lf,bxS 1000 b) (hln : lf.length ≤ 100000) :
  Calls Tryz.prog 55 #[.pointer (some ⟨g,0,none⟩),.string nm,.int .i64 (sd : Int)] w fun e w' => e = .returned (fcP nm sd lf) ∧ Below w.heap.size w w' :=
 faceI_any g gc bm cap vd vw fs l c nm (sd : Int) nb lf w hg hc hm hnm hnb (by rw [ofI_nat];exact hlf) hnd hsm hln (fun h => by omega)
end Go.Proofs.YtkiplmabjeadgaaGreat
