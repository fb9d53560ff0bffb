/- A statement of the program's build that draws its order. -/
import Derived.Test.YtkiplmabjeadgaaGreatBpDqR
import Derived.Test.YtkiplmabjeadgaaGreatBpW1R
import Derived.Test.YtkiplmabjeadgaaGreatNmAtR
import Derived.Test.YtkiplmabjeadgaaGreatBpDoR
import Derived.Test.YtkiplmabjeadgaaGreatBuMR
import Derived.Test.YtkiplmabjeadgaaGreatRunesR
namespace Go.Proofs.YtkiplmabjeadgaaGreat
set_option maxRecDepth 100000
set_option maxHeartbeats 16000000
open Go.ChangeShapes Go.WideShapes Go.ChangeAt Go.RowKit
set_option linter.unusedVariables false
set_option linter.unusedSimpArgs false
theorem ktN_eq (k : Int) : (ktN k == 240) = decide (k = 1):=by
 unfold ktN
 by_cases h : k = 1
 ·rw [if_pos h];simp [h]
 ·rw [if_neg h];simp [h]
def Wsi (fs : List Ft) (l : List Nat) (ws : List Wk) : Prop:=∀ (j d : Nat),l[j]? = some d → (fs.getD d ft0).kd ≠ 3 → emp (fs.getD d ft0).on = true → ws[j]? = some (.free (ktN (fs.getD d ft0).kd) (ftB (fs.getD d ft0)))
theorem Wsi.zero (fs : List Ft) : Wsi fs [] []:=fun j d h => by cases h
theorem Wsi.snoc {fs : List Ft} {l : List Nat} {ws : List Wk} {i : Nat} {k : Wk} (h : Wsi fs l ws) (hl : ws.length = l.length) (hk : (fs.getD i ft0).kd ≠ 3 → emp (fs.getD i ft0).on = true → k = .free (ktN (fs.getD i ft0).kd) (ftB (fs.getD i ft0))) : Wsi fs (l ++ [i]) (ws ++ [k]):=by
 intro j d hj h3 ho
 by_cases e : j < l.length
 ·rw [List.getElem?_append_left e] at hj
  rw [List.getElem?_append_left (by omega)];exact h j d hj h3 ho
 ·have hj2:=(List.getElem?_eq_some_iff.1 hj).1
  rw [List.length_append,List.length_singleton] at hj2;obtain rfl : j = l.length:=by omega
  rw [List.getElem?_append_right (Nat.le_refl _),Nat.sub_self] at hj
  cases hj
  rw [List.getElem?_append_right (by omega),hl,Nat.sub_self,hk h3 ho];rfl
theorem byL_name {fs : List Ft} {l : List Nat} {s : ByteArray} : ∀ {n j : Nat},byL fs l s n = j + 1 → j < n ∧ sEq (fs.getD (l.getD j 0) ft0).nm s = true
 | 0,j,h => by cases h
 | n + 1,j,h => by
  unfold byL at h
  split at h
  ·rename_i e
   obtain rfl : n = j:=by omega
   exact ⟨Nat.lt_succ_self _,e⟩
  ·obtain ⟨h1,h2⟩:=byL_name h
   exact ⟨by omega,h2⟩
theorem byL_pos {fs : List Ft} {l : List Nat} {s : ByteArray} : ∀ {n j : Nat},j < n → sEq (fs.getD (l.getD j 0) ft0).nm s = true → byL fs l s n ≠ 0
 | 0,_,h,_ => by cases h
 | n + 1,j,h,e => by
  unfold byL
  split
  ·omega
  ·rename_i e2
   by_cases hj : j = n
   ·subst hj;exact (e2 e).elim
   ·exact byL_pos (by omega) e
theorem Fine.uniq {fs : List Ft} (hF : Fine fs) {k d : Nat} {q r : Ft} (hk : fs[k]? = some q) (hd : fs[d]? = some r) (e : q.nm = r.nm) : k = d:=by
 have key : ∀ {a b : Nat} {x y : Ft},fs[a]? = some x → fs[b]? = some y → x.nm = y.nm → ¬ a < b:=by
  intro a b x y ha hb e2 hab;have h1:=twi_none' hF.once b y hb;rw [findN_take,List.any_eq_false] at h1;have hm : x ∈ fs.take b:=List.mem_of_getElem? (show (fs.take b)[a]? = some x by rw [List.getElem?_take_of_lt hab];exact ha);exact h1 x hm (by rw [e2];exact sEq_refl _)
 have h1:=key hk hd e;have h2:=key hd hk e.symm;omega
theorem hof_of {fs : List Ft} {l : List Nat} {ws : List Wk} {f : Ft} (hF : Fine fs) (hf : f ∈ fs) (h3 : f.kd = 3) (hw : Wsi fs l ws) (hlt : ∀ d ∈ l,d < fs.length) (hin : ∀ k,findN fs f.ov = some k → k ∈ l) :
  bxS 24 (ftB (ofF fs f)) ∧ ∃ j,byOf fs l f.ov = j + 1 ∧ ws[j]? = some (.free (ktN (ofF fs f).kd) (ftB (ofF fs f))):=by
 obtain ⟨k,q,hk,hq,hoq,hq3,hqe,hqb⟩:=hF.of_ hf h3;have gk : fs.getD k ft0 = q:=by rw [List.getD_eq_getElem?_getD,hq];rfl
 have hnm : q.nm = f.ov:=by
  obtain ⟨q',h1,h2⟩:=findN_at hk;rw [hq] at h1
  cases h1
  exact h2
 obtain ⟨j0,hj0⟩:=List.getElem?_of_mem (hin k hk);have hj0l:=(List.getElem?_eq_some_iff.1 hj0).1;have hne : byOf fs l f.ov ≠ 0:=byL_pos hj0l (by rw [List.getD_eq_getElem?_getD (l:=l),hj0,Option.getD_some,gk,hnm];exact sEq_refl _)
 obtain ⟨j,hj⟩ : ∃ j,byOf fs l f.ov = j + 1:=⟨byOf fs l f.ov - 1,by omega⟩
 obtain ⟨hjl,hjn⟩:=byL_name hj
 obtain ⟨d,hd⟩ : ∃ d,l[j]? = some d:=⟨_,List.getElem?_eq_getElem hjl⟩
 rw [List.getD_eq_getElem?_getD (l:=l),hd,Option.getD_some] at hjn;have hdl:=hlt d (List.mem_of_getElem? hd);have hdf : fs[d]? = some (fs.getD d ft0):=by rw [List.getD_eq_getElem?_getD,List.getElem?_eq_getElem hdl];rfl
 have hkd : k = d:=hF.uniq hq hdf (hnm.trans (sEq_iff.1 hjn).symm);subst hkd;refine ⟨by rw [hoq];exact hqb.bx,j,hj,?_⟩;have h9:=hw j k hd (by rw [gk];exact hq3) (by rw [gk];exact hqe);rw [gk] at h9;rw [hoq];exact h9
theorem left_named {fs : List Ft} {off : List ByteArray} {i d k : Nat} (hi : i < (nms fs).length) (hff : ff (nms fs) (wo (nms fs) i) = some d) (hnl : lf fs off d = false) (hk : k ∈ (nms fs).getD d []) : k ∈ wo (nms fs) i ∧ lf fs off k = false:=by
 have hin:=(ff_some hff).2.2.1 k hk;refine ⟨hin,?_⟩;have h1:=lf_at (off:=off) hi hff;rw [hnl] at h1
 have h2 : (mrk (nms fs) (sdB fs off) (wo (nms fs) i)).contains k = false:=by
  cases e : (mrk (nms fs) (sdB fs off) (wo (nms fs) i)).contains k with
  | false => rfl
  | true =>
   exfalso
   have hc : (sdB fs off d || ((nms fs).getD d []).any (fun p => (mrk (nms fs) (sdB fs off) (wo (nms fs) i)).contains p)) = true:=by
    rw [Bool.or_eq_true];exact .inr (List.any_eq_true.2 ⟨k,hk,e⟩)
   unfold mgo at h1;rw [if_pos hc] at h1;simp at h1
 obtain ⟨T,hT⟩:=ord_split (nm:=nms fs) (i:=i) (by omega);have hnd:=wo_nodup (nms fs) (nms fs).length;have ho : wo (nms fs) (nms fs).length = ord (nms fs):=rfl;rw [ho,hT,List.nodup_append] at hnd;unfold lf;rw [hT];unfold mrk;rw [List.foldl_append,mgo_far T _ (fun e => hnd.2.2 k hin k e rfl)];exact h2
theorem named_of {fs : List Ft} {d k : Nat} {f : Ft} (hd : fs[d]? = some f) (hov : emp f.ov = false) (hk : findN fs f.ov = some k) : k ∈ (nms fs).getD d []:=by
 unfold nms;rw [List.getD_eq_getElem?_getD,List.getElem?_map,hd]
 show k ∈ nmd fs f
 unfold nmd;rw [hov,hk];simp
theorem info141 : (Tryz.prog.info? 141).map (fun i => (i.zero,i.size,i.bytes)) = some (some (.agg #[.bool false,.int .i64 0]),2,16):=by kernel_rfl
theorem made_cells : madeCells (Value.agg #[.bool false,.int .i64 0]).cells 27648 = (csl cs0).toArray:=by
 show madeCells #[.bool false,.int .i64 0] 27648 = _
 apply Array.ext
 ·simp [madeCells,csl,fnL]
 ·intro i h1 h2
  simp only [madeCells,csl,fnL,Array.getElem_map,Array.getElem_range,List.getElem_toArray,List.getElem_map,List.getElem_range]
  rcases Nat.mod_two_eq_zero_or_one i with e | e
  ·have e2 : i % #[Value.bool false,Value.int .i64 0].size = 0:=e
   rw [e2,if_pos e];rfl
  ·have e2 : i % #[Value.bool false,Value.int .i64 0].size = 1:=e
   rw [e2,if_neg (by omega)];rfl
theorem mkCells (W : World) : (Instr.makeSlice 80 (.int .i64 13824) (.int .i64 13824)).run Tryz.prog W = .ok (.slice (some ⟨W.heap.size,0,none⟩) 13824 13824) (W.alloc (.cells (csl cs0).toArray 141)):=by
 obtain ⟨i,hx,h0,h1,h2⟩:=info_parts info141;have:=run_make (P:=Tryz.prog) W 80 141 i _ Tryz.underlying80 hx h0 .i64 .i64 13824 13824 (by omega) (by omega) (by rw [h2];omega) (by omega);rw [this,h1,← made_cells];rfl
theorem doF_ok {fs : List Ft} {D : Bd} {i : Nat} {f : Ft} {l : List Bx} {k : Wk} (hf : fs.getD i ft0 = f) (hst : stood fs D f = .inr l) (ha : (l.any fun b => !bxOk b) = false) (hkt : k.t = ktN (kdF fs f)) :
  doF fs D i = .inr ⟨D.done ++ [i],l.foldl (fun c b => fil b (k.t == 240) (D.done.length + 1) c) D.cs⟩:=by
 unfold doF;rw [hf,hst,hkt];simp only [ha,ktN_eq];rfl
theorem doF_out {fs : List Ft} {D : Bd} {i : Nat} {f : Ft} {l : List Bx} (hf : fs.getD i ft0 = f) (hst : stood fs D f = .inr l) (ha : (l.any fun b => !bxOk b) = true) : doF fs D i = .inl (5,[f.nm]):=by
 unfold doF;rw [hf,hst];simp only [ha,if_true]
theorem doF_no {fs : List Ft} {D : Bd} {i : Nat} {f : Ft} {x : Int × List ByteArray} (hf : fs.getD i ft0 = f) (hst : stood fs D f = .inl x) : doF fs D i = .inl x:=by
 unfold doF;rw [hf,hst]
def WoDo (fs : List Ft) (D : Bd) (i : Nat) (f : Ft) (w : World) (e : Ending) (w' : World) : Prop :=
 (match doF fs D i with
  | .inl x => ∃ v,e = .returned (.tuple #[.nilIface,.int .i64 x.1,v]) ∧ SRow w' w.heap.size v x.2
  | .inr D' => ∃ k : Wk,k.ok ∧ (∀ b ∈ k.bx,bxOk b = true) ∧ D' = ⟨D.done ++ [i],k.bx.foldl (fun c b => fil b (k.t == 240) (D.done.length + 1) c) D.cs⟩ ∧ (f.kd ≠ 3 → emp f.on = true → k = .free (ktN f.kd) (ftB f)) ∧ e = .returned (.tuple #[k.v,.int .i64 0,.slice none 0 0])) ∧ Below w.heap.size w w'
theorem WoAns.told {fs : List Ft} {D : Bd} {i : Nat} {f : Ft} {w w' : World} {e : Ending} (hf : fs.getD i ft0 = f) (h : WoAns fs D f w e w') : WoDo fs D i f w e w':=by
 unfold WoAns at h;refine ⟨?_,h.2⟩
 cases hst : stood fs D f with
 | inl x =>
  rw [hst] at h;rw [doF_no hf hst];exact h.1
 | inr l =>
  rw [hst] at h;simp only at h
  cases ha : l.any fun b => !bxOk b with
  | true =>
   rw [doF_out hf hst ha];rw [ha] at h;exact h.1
  | false =>
   rw [ha] at h;obtain ⟨⟨k,hk,hb,ht,hu,he⟩,_⟩:=h;rw [doF_ok hf hst ha ht];refine ⟨k,hk,fun b hbm => ?_,by rw [hb],hu,he⟩;rw [hb] at hbm;have h9:=List.any_eq_false.1 ha b hbm
   cases e9 : bxOk b with
   | true => rfl
   | false => rw [e9] at h9;simp at h9
open Go.ChangeShapes Go.WideShapes Go.ChangeAt Go.RowKit Go.Maps Go.WideMaps
def nth (v : Value) (i : Nat) : Value:=match v with | .tuple a => a.getD i undef | _ => undef
def BpV (fs : List Ft) (off : List ByteArray) (B : Nat) (w : World) (v : Value) : Prop :=
 match runB fs (lf fs off) (ord (nms fs)) bd0 with
  | .inl x => ∃ v3,v = .tuple #[.pointer none,.int .i64 x.1,v3] ∧ SRow w B v3 x.2
  | .inr D => Okd fs D ∧ D.done.length ≤ 30 ∧ ∃ g gc bm cap N vd vw ws,v = .tuple #[.pointer (some ⟨g,0,none⟩),.int .i64 0,.slice none 0 0] ∧ Pdm w N fs g gc bm cap vd vw ws D ∧ cap ≤ 30 ∧ (B ≤ g ∧ B ≤ gc ∧ B ≤ bm) ∧ (g < N ∧ gc < N ∧ bm < N ∧ N ≤ w.heap.size) ∧ g ≠ gc ∧ g ≠ bm ∧ gc ≠ bm
theorem BpV.bel {fs : List Ft} {off : List ByteArray} {B : Nat} {w w' : World} {v : Value} (h : BpV fs off B w v) (hb : Below w.heap.size w w') : BpV fs off B w' v:=by
 unfold BpV at h ⊢
 split
 ·rename_i x hx
  rw [hx] at h;obtain ⟨v3,e,hs⟩:=h;exact ⟨v3,e,hs.bel hb⟩
 ·rename_i D hD
  rw [hD] at h;obtain ⟨h1,h2,g,gc,bm,cap,N,vd,vw,ws,e,hP,hc,hl,⟨a1,a2,a3,a4⟩,hn⟩:=h;exact ⟨h1,h2,g,gc,bm,cap,N,vd,vw,ws,e,hP.bel hb,hc,hl,⟨a1,a2,a3,Nat.le_trans a4 hb.size⟩,hn⟩
theorem BpV.tup {fs : List Ft} {off : List ByteArray} {B : Nat} {w : World} {v : Value} (h : BpV fs off B w v) : v = .tuple #[nth v 0,nth v 1,nth v 2]:=by
 unfold BpV at h
 split at h
 ·obtain ⟨v3,rfl,_⟩:=h
  rfl
 ·obtain ⟨_,_,g,gc,bm,cap,N,vd,vw,ws,rfl,_⟩:=h
  rfl
theorem BpV.mono {fs : List Ft} {off : List ByteArray} {B B' : Nat} {w : World} {v : Value} (h : BpV fs off B w v) (hB : B' ≤ B) : BpV fs off B' w v:=by
 unfold BpV at h ⊢
 split
 ·rename_i x hx
  rw [hx] at h;obtain ⟨v3,e,hs⟩:=h;exact ⟨v3,e,hs.mono hB⟩
 ·rename_i D hD
  rw [hD] at h;obtain ⟨h1,h2,g,gc,bm,cap,N,vd,vw,ws,e,hP,hc,⟨b1,b2,b3⟩,hl⟩:=h;exact ⟨h1,h2,g,gc,bm,cap,N,vd,vw,ws,e,hP,hc,⟨Nat.le_trans hB b1,Nat.le_trans hB b2,Nat.le_trans hB b3⟩,hl⟩
def BpAns (fs : List Ft) (off : List ByteArray) (w : World) (e : Ending) (w' : World) : Prop:=(∃ v,e = .returned v ∧ BpV fs off w.heap.size w' v) ∧ Below w.heap.size w w'
theorem bw_start (w : World) (fs : List Ft) (L : List Value) : ∀ W q,q = w.heap.size + 1 → W = ((((w.alloc (.cells L.toArray 135)).alloc (.cells (csl cs0).toArray 141)).alloc (.map #[] 0)).alloc (.cells #[.slice (some ⟨q,0,none⟩) 13824 13824,.slice none 0 0,.slice none 0 0,.map (some (q + 1))] 84)) →
  Pdm W (q + 1 + 1 + 1) fs (q + 1 + 1) q (q + 1) 0 (.slice none 0 0) (.slice none 0 0) [] bd0 ∧ vb W w.heap.size 135 L ∧ Below w.heap.size w W ∧ W.heap.size = q + 1 + 1 + 1:=by
 rintro W q rfl rfl;have b1:=ba (bfl w.heap.size w) (.cells L.toArray 135);have v1:=vb_new w 135 L _ rfl
 obtain ⟨W1,hW1⟩ : ∃ W1,w.alloc (.cells L.toArray 135) = W1:=⟨_,rfl⟩
 have s1 : W1.heap.size = w.heap.size + 1:=by rw [← hW1,World.size_alloc]
 rw [hW1] at b1 v1 ⊢;have v2:=vb_new W1 141 (csl cs0) _ rfl;have b2:=ba (bfl W1.heap.size W1) (.cells (csl cs0).toArray 141)
 obtain ⟨W2,hW2⟩ : ∃ W2,W1.alloc (.cells (csl cs0).toArray 141) = W2:=⟨_,rfl⟩
 have s2 : W2.heap.size = w.heap.size + 2:=by rw [← hW2,World.size_alloc,s1]
 rw [hW2] at v2 b2 ⊢;have m3:=MpN.made W2 fs;have b3:=ba (bfl W2.heap.size W2) (.map #[] 0)
 obtain ⟨W3,hW3⟩ : ∃ W3,W2.alloc (.map #[] 0) = W3:=⟨_,rfl⟩
 have s3 : W3.heap.size = w.heap.size + 3:=by rw [← hW3,World.size_alloc,s2]
 rw [hW3] at m3 b3 ⊢;have v4:=vb_new W3 84 [.slice (some ⟨w.heap.size + 1,0,none⟩) 13824 13824,.slice none 0 0,.slice none 0 0,.map (some (w.heap.size + 1 + 1))] _ rfl;have b4:=ba (bfl W3.heap.size W3) (.cells #[.slice (some ⟨w.heap.size + 1,0,none⟩) 13824 13824,.slice none 0 0,.slice none 0 0,.map (some (w.heap.size + 1 + 1))] 84);rw [s1] at v2;rw [s2] at m3;rw [s3] at v4;refine ⟨⟨v4,(v2.bel b3).bel b4,own_nil _ _ _ _,own_nil _ _ _ _,m3.bel b4,rfl⟩,((v1.bel b2).bel b3).bel b4,bc (bc (bc b1 b2) b3) b4,?_⟩;rw [World.size_alloc,s3]
theorem bodyP_any (u ua ub : Option Addr) (p po n cu n3 c3 c4 bm0 gl cl : Nat) (fs : List Ft) (off : List ByteArray) (M : List Nat) (w : World) (hl : fs.length = n) (hF : Fine fs) (hs : ∀ f ∈ fs,f.nm.size ≤ maxLen ∧ f.on.size ≤ maxLen ∧ f.ov.size ≤ maxLen) (hu : SlG ftc 15 w u p po fs)
  (hor : Inn w (.slice ub n c4) (ord (nms fs))) (hlv : vb w gl 4 (bl n M)) (hM : ∀ k,k < n → M.contains k = lf fs off k) :
  Calls Tryz.prog 84 #[.agg #[.slice u n cu,.map (some bm0),.slice ua n3 c3,.slice ub n c4],.slice (some ⟨gl,0,none⟩) n cl] w (BpAns fs off w):=by
 have hn30 : n ≤ 30:=by have:=hF.len;omega
 have HL:=hide hl;have HF:=hide hF;have HS:=hide hs;have HU:=hide hu;have HOR:=hide hor;have HLV:=hide hlv;have HM:=hide hM;have HST:=hide (bw_start w fs [.slice u n cu,.map (some bm0),.slice ua n3 c3,.slice ub n c4] _ _ rfl rfl);have hoall : (ord (nms fs)).length = (nms fs).length:=by rw [nms_len];exact hF.all
 have HOA:=hide hoall;have HNL:=hide (show (nms fs).length = n by rw [nms_len];exact hl);clear hl hF hs hu hor hlv hM hoall;have hmk:=mkCells;have hmm:=@run_makeMap Tryz.prog;go_enter Tryz.func84,Tryz.ntmps84;go_wp2_with fail;clear hmk hmm;obtain ⟨hp0,hc0,hb0,hz0⟩:=zu HST;have HP0:=hide hp0;have HC0:=hide hc0;have HB0:=hide hb0;have HZ0:=hide (Nat.le_of_eq hz0.symm);clear hp0 hc0 hb0 hz0 HST
 go_loopw [21] (fun s W => ∃ (i : Nat) (D : Bd) (cap : Nat) (vd vw : Value) (ws : List Wk),s = .int .i64 (i : Int) ∧ i ≤ n ∧ runB fs (lf fs off) (wo (nms fs) i) bd0 = .inr D ∧ Okd fs D ∧ D.done.length ≤ i ∧ cap ≤ i ∧
  Pdm W (w.heap.size + 1 + 1 + 1 + 1) fs (w.heap.size + 1 + 1 + 1) (w.heap.size + 1) (w.heap.size + 1 + 1) cap vd vw ws D ∧ Wsi fs D.done ws ∧ (∀ k ∈ wo (nms fs) i,lf fs off k = false → k ∈ D.done) ∧ (∀ d ∈ D.done,d < n) ∧
  vb W w.heap.size 135 [.slice u n cu,.map (some bm0),.slice ua n3 c3,.slice ub n c4] ∧ Below w.heap.size w W ∧ w.heap.size + 1 + 1 + 1 + 1 ≤ W.heap.size) (fun s _ => n - (intOf s).toNat)
 case atStart => exact ⟨0,bd0,0,.slice none 0 0,.slice none 0 0,[],rfl,Nat.zero_le _,rfl,Okd.zero fs,Nat.le_refl _,Nat.le_refl _,zu HP0,Wsi.zero fs,fun k hk => absurd hk (List.not_mem_nil),fun d hd => absurd hd (List.not_mem_nil),zu HC0,zu HB0,zu HZ0⟩
 case round =>
  obtain ⟨i,D,cap,vd,vw,ws,rfl,hin,hrun,hok,hdl,hcap,hpd,hws,hall,hlt,hcb,hbw,hsz⟩:=hrel;rename World => W1
  have HRUN:=hide hrun;have HOK:=hide hok;have HDL:=hide hdl;have HCP:=hide hcap;have HPD:=hide hpd;have HWS:=hide hws;have HALL:=hide hall;have HLT:=hide hlt;have HCB:=hide hcb;have HBW:=hide hbw;have HSZ:=hide hsz;clear hrun hok hdl hcap hpd hws hall hlt hcb hbw hsz HP0 HC0 HB0 HZ0
  by_cases h : i < n
  ·have i1 : (i : Int) < (n : Int):=by omega
   have i0 : (0 : Int) ≤ (i : Int):=Int.natCast_nonneg _;have iz : decide ((i : Int) < (n : Int)) = true:=dt i1;have wi : IntKind.i64.wrap ((i : Int) + 1) = ((i + 1 : Nat) : Int):=(wrap_i (by omega) (by omega)).trans (by simp);obtain ⟨k,hk⟩:=wo_next (zu HOA) (show i < (nms fs).length by have:=zu HNL;omega) (wo_full (zu HOA) i (by have:=zu HNL;omega));obtain ⟨k1,k2,k3,_⟩:=ff_some hk;rw [zu HNL] at k1;have hoi:=ord_at (zu HOA) (by have:=zu HNL;omega) hk;obtain ⟨uc,c8,e8,h8⟩:=zu HOR;have e9 : ub = uc:=by injection e8
   subst e9;obtain ⟨go,oo,rfl,hgo,hio⟩:=h8 (by intro e;rw [e] at hoi;cases hoi);have k0:=(hio.below (zu HBW) hgo) i _ (nats_at hoi);have kk1 : (k : Int) < (n : Int):=by omega
   have kz : (0 : Int) ≤ (k : Int):=Int.natCast_nonneg _;have dg:=((zu HLV).bel (zu HBW)).cell (bl_at (o:=M) k1);rw [zu HM k k1] at dg;have hw2 : wo (nms fs) (i + 1) = wo (nms fs) i ++ [k]:=wo_some hk;have hrs:=runB_snoc fs (lf fs off) (wo (nms fs) i) k bd0;rw [zu HRUN,← hw2] at hrs;simp only at hrs;obtain ⟨f,hx⟩:=get_some (zu HL) k1;have hcl:=(zu HCB).cell (m:=0) rfl;have HRS:=hide hrs;have HW2:=hide hw2;have HK:=hide hk;have HX:=hide hx;have HK1:=hide k1;clear hk k2 k3 hoi h8 e8 hio hrs hw2 hx
   cases hlf : lf fs off k with
   | true =>
    rw [hlf] at dg;have hr1 : runB fs (lf fs off) (wo (nms fs) (i + 1)) bd0 = .inr D:=by rw [zu HRS,if_pos hlf]
    have hal1 : ∀ q ∈ wo (nms fs) (i + 1),lf fs off q = false → q ∈ D.done:=by
     intro q hq hql;rw [zu HW2,List.mem_append,List.mem_singleton] at hq
     rcases hq with hq | rfl
     ·exact zu HALL q hq hql
     ·rw [hlf] at hql;cases hql
    have HR1:=hide hr1;have HA1:=hide hal1;clear hr1 hal1 hlf;go_wp2_with fail;go_roundw
    case rel => exact ⟨i + 1,D,cap,vd,vw,ws,by simp,h,zu HR1,zu HOK,Nat.le_succ_of_le (zu HDL),Nat.le_succ_of_le (zu HCP),zu HPD,zu HWS,zu HA1,zu HLT,zu HCB,zu HBW,zu HSZ⟩
    case measure => simp only [intOf];omega
   | false =>
    rw [hlf] at dg;have hgdf : fs.getD k ft0 = f:=getD_at (zu HX);have hfm : f ∈ fs:=List.mem_of_getElem? (zu HX);obtain ⟨z1,z2,z3⟩:=zu HS f hfm
    have hof:=fun h3 => hof_of (ws:=ws) (zu HF) hfm h3 (zu HWS) (fun d hd => by have:=zu HLT d hd;have:=zu HL;omega) (fun q hq => by
     have hn1:=named_of (zu HX) ((ftr_fb ((zu HF).right f hfm)).row h3).2.1 hq;have hn2:=left_named (off:=off) (show i < (nms fs).length by have:=zu HNL;omega) (zu HK) hlf hn1
     exact zu HALL q hn2.1 hn2.2)
    have HWO : Hid (∀ W,Below W1.heap.size W1 W → Calls Tryz.prog 117 #[.pointer (some ⟨w.heap.size + 1 + 1 + 1,0,none⟩),ftv f] W (WoDo fs D k f W)):=hide (fun W hW => by
     refine (workOf_any ((zu HPD).bel hW) (zu HF) (zu HX) (zu HOK) (by have:=zu HDL;omega) z3 z2 hof).mono ?_;intro e w' he
     exact he.told hgdf)
    obtain ⟨F,hFl⟩:=fl_ex f;have hfc : ∀ (j : Nat) (v : Value),(ftc f)[j]? = some v → W1.cell? ⟨p,po + k * 15 + j,none⟩ = some v:=(((zu HU).bel (zu HBW)).at (zu HX)).2.2;have hup : u = some ⟨p,po,none⟩:=(((zu HU).bel (zu HBW)).at (zu HX)).1;subst hup;have LD:=hide (hFl.load hfc);have HI:=hide hFl.info;have hsz:=hFl.size;have HO:=hide hFl.one;have hab:=ab_new W1 75 F _ rfl;have LD2:=hide (hFl.load0 hab);have HAB:=hide hab;have HFL:=hide hFl;have HE0:=hide (hab.cell (j:=0) (v:=.string f.nm) (by rw [hFl.l];rfl));rw [hFl.v] at HWO;have HGD:=hide hgdf
    have HZ1:=hide z1;have HNF:=hide (show ¬ lf fs off k = true by rw [hlf];simp);clear hgdf hfm z1 z2 z3 hof hfc hab hFl hlf
    go_wp2_with (first | refine wpl_loadAt rfl 75 _ rfl _ rfl _ (zu LD) ?_ | refine wpl_loadAt rfl 75 _ rfl _ rfl _ (zu LD2) ?_ | refine wpl_putNew rfl 75 _ _ rfl W1 _ F 75 rfl rfl (zu HI) (by rw [hsz];rfl) (zu HO) ?_)
    have hbA:=ba (bfl W1.heap.size W1) (.cells F 75);refine (zu HWO _ hbA).mono ?_;rintro e W2 ⟨hwo,hb2⟩;have HB2:=hide (bc (zu HBW) (bc hbA hb2));have HC2:=hide ((zu HCB).bel (bc hbA hb2));have HP2:=hide ((zu HPD).bel (bc hbA hb2));have HN2:=hide (((zu HAB).bel hb2).cell (j:=0) (v:=.string f.nm) (by rw [(zu HFL).l];rfl));have HS2:=hide (Nat.le_trans (zu HSZ) (bc hbA hb2).size);have hlq:=((zu HAB).bel hb2).lt;clear hbA hb2 HWO LD LD2 HAB HE0
    cases hd : doF fs D k with
    | inl x =>
     rw [hd] at hwo;simp only at hwo;obtain ⟨v,rfl,hv⟩:=hwo;have hx0:=doF_code hd;have hc0 : (x.1 == 0) = false:=by simpa using hx0
     have hrun2 : runB fs (lf fs off) (ord (nms fs)) bd0 = .inl x:=by
      obtain ⟨T,hT⟩:=ord_split (nm:=nms fs) (i:=i + 1) (by have:=zu HNL;omega);rw [hT,runB_app,zu HRS,if_neg (zu HNF),hd]
     obtain ⟨ux,cx,rfl,_⟩:=own_form hv
     have hE : BpAns fs off w (.returned (.tuple #[.pointer none,.int .i64 x.1,.slice ux x.2.length cx])) W2:=by
      refine ⟨⟨_,rfl,?_⟩,zu HB2⟩;unfold BpV;rw [hrun2];exact ⟨_,rfl,hv.mono (Nat.le_trans (zu HBW).size (by simp))⟩
     have HE:=hide hE;obtain ⟨xc,xa⟩:=x;simp only at hc0 HE;clear hd hx0 hrun2 hv hE hlq;go_wp2_with fail;refine bodyPost_ret (v:=.tuple #[.pointer none,.int .i64 xc,.slice ux xa.length cx]) (by simp [results,Tryz.results84,go_sem]) rfl ?_;exact zu HE
    | inr D' =>
     rw [hd] at hwo;simp only at hwo;obtain ⟨kk,hko,hkb,hD',hkf,rfl⟩:=hwo;have hr1 : runB fs (lf fs off) (wo (nms fs) (i + 1)) bd0 = .inr D':=by rw [zu HRS,if_neg (zu HNF),hd]
     have HR1:=hide hr1;have HOK1:=hide ((zu HOK).do_ (zu HF) (by have:=zu HL;have:=zu HK1;omega) hd);have HDL1:=hide (doF_len hd);have hdone : D'.done = D.done ++ [k]:=by rw [hD']
     have HDN:=hide hdone
     have HW1:=hide (show Wsi fs D'.done (ws ++ [kk]) by
      rw [hdone];refine (zu HWS).snoc (zu HPD).len ?_;rw [zu HGD]
      exact hkf)
     have HDO:=hide (doP_any (i:=k) (zu HP2) hko hkb (by rw [zu HGD];exact zu HZ1) (by have:=zu HDL;omega) (by have:=zu HCP;omega) (zu HS2) (by omega) (by omega) (by omega) (by omega) (by omega) (by omega));rw [zu HGD,← hD'] at HDO;have n0:=zu HN2
     obtain ⟨kv,hkv⟩ : ∃ v,kk.v = v:=⟨_,rfl⟩
     rw [hkv] at HDO ⊢;clear hd hr1 hdone hkb hkf hD' hko;go_wp2_with fail;refine (zu HDO).mono ?_;rintro e W3 ⟨rfl,⟨vd',vw',hp3⟩,hth⟩;have HP3:=hide hp3;have HC3:=hide ((hth.block w.heap.size (by omega) (by omega) (by omega) (by omega)).trans (zu HC2));have HB3:=hide ((zu HB2).trans (hth.below (by omega) (by omega) (by omega) (by omega)));have HS3:=hide (Nat.le_trans (zu HS2) hth.size);clear hp3 hth n0 HDO hkv;go_wp2_with fail;go_roundw
     case rel =>
      refine ⟨i + 1,D',cap + 1,vd',vw',ws ++ [kk],by simp,h,zu HR1,zu HOK1,by rw [zu HDL1];have:=zu HDL;omega,by have:=zu HCP;omega,zu HP3,zu HW1,?_,?_,zu HC3,zu HB3,zu HS3⟩
      ·intro q hq hql
       rw [zu HW2,List.mem_append,List.mem_singleton] at hq;rw [zu HDN,List.mem_append,List.mem_singleton]
       rcases hq with hq | rfl
       ·exact .inl (zu HALL q hq hql)
       ·exact .inr rfl
      ·intro d hd
       rw [zu HDN,List.mem_append,List.mem_singleton] at hd
       rcases hd with hd | rfl
       ·exact zu HLT d hd
       ·exact zu HK1
     case measure => simp only [intOf];omega
  ·obtain rfl : n = i:=by omega
   have iz : decide ((n : Int) < (n : Int)) = false:=df (by omega);have hord : wo (nms fs) n = ord (nms fs):=by unfold ord;rw [zu HNL]
   rw [hord] at HRUN
   have hE : BpAns fs off w (.returned (.tuple #[.pointer (some ⟨w.heap.size + 1 + 1 + 1,0,none⟩),.int .i64 0,.slice none 0 0])) W1:=by
    refine ⟨⟨_,rfl,?_⟩,zu HBW⟩;unfold BpV;rw [zu HRUN];exact ⟨zu HOK,by have:=zu HDL;omega,_,_,_,cap,_,vd,vw,ws,rfl,zu HPD,by have:=zu HCP;omega,⟨by omega,by omega,by omega⟩,⟨by omega,by omega,by omega,zu HSZ⟩,by omega,by omega,by omega⟩
   have HE:=hide hE;clear hord hE;go_wp2_with fail;refine bodyPost_ret (v:=.tuple #[.pointer (some ⟨w.heap.size + 1 + 1 + 1,0,none⟩),.int .i64 0,.slice none 0 0]) (by simp [results,Tryz.results84,go_sem]) rfl ?_;exact zu HE
noncomputable def rg47 (id : Nat) : Go.Code:=match Tryz.f47.body with | some c => (regOfZ id c).getD .skip | none => .skip
def Lfv (n : Nat) (M : List Nat) (W : World) (v : Value) : Prop:=∃ g,v = .slice (some ⟨g,0,none⟩) n n ∧ vb W g 4 (bl n M)
theorem Lfv.bel {n : Nat} {M : List Nat} {W W' : World} {v : Value} (h : Lfv n M W v) (hb : Below W.heap.size W W') : Lfv n M W' v:=by
 obtain ⟨g,e,h⟩:=h;exact ⟨g,e,h.bel hb⟩
theorem bd4 {s0 s2 s3 s4 s5 s6 s8 s9 s10 s11 s12 s13 s14 s15 s16 s17 s18 s19 s20 s21 s22 s23 s24 s25 s26 s27 s28 : Value} {gH n B : Nat} {M : List Nat} {fs : List Ft} {off : List ByteArray} {vo h0 h1 h2 h3 : Value} {V : World} {K_ : Act → World → Prop}
  (HC0 : Hid (V.cell? ⟨gH,0,none⟩ = some (h0))) (HC1 : Hid (V.cell? ⟨gH,1,none⟩ = some (h1))) (HC2 : Hid (V.cell? ⟨gH,2,none⟩ = some (h2))) (HC3 : Hid (V.cell? ⟨gH,3,none⟩ = some (h3)))
  (HF3 : Hid (∀ Xw,Below V.heap.size V Xw → Calls Tryz.prog 85 #[.agg #[h0,h1,h2,h3],vo] Xw fun e w' => (∃ r_,e = .returned (r_) ∧ Lfv n M w' r_) ∧ Below Xw.heap.size Xw w'))
  (HF4 : Hid (∀ (vl : Value) Xw,Below V.heap.size V Xw → Lfv n M Xw vl → Calls Tryz.prog 84 #[.agg #[h0,h1,h2,h3],vl] Xw fun e w' => (∃ r_,e = .returned (.tuple #[(nth r_ 0),(nth r_ 1),(nth r_ 2)]) ∧ BpV fs off B w' r_) ∧ Below Xw.heap.size Xw w'))
  (hQ : ∀  (vl : Value) (va : Value) (W1 : World),Below V.heap.size V W1 → Lfv n M W1 vl → BpV fs off B W1 va → K_ { tmps:=#[s0,vo,s2,s3,(nth va 0),(nth va 1),(nth va 2),.pointer (some ⟨gH,0,none⟩),s8,s9,s10,s11,s12,s13,s14,s15,s16,s17,s18,s19,s20,.agg #[h0,h1,h2,h3],.agg #[h0,h1,h2,h3],vo,vl,.tuple #[(nth va 0),(nth va 1),(nth va 2)],(nth va 0),(nth va 1),(nth va 2)],defers:=[] } W1) :
  Go.Code.wp Tryz.prog (rg47 4) (Only K_) { tmps:=#[s0,vo,s2,s3,s4,s5,s6,.pointer (some ⟨gH,0,none⟩),s8,s9,s10,s11,s12,s13,s14,s15,s16,s17,s18,s19,s20,s21,s22,s23,s24,s25,s26,s27,s28],defers:=[] } V:=by
 have HQ:=hide hQ;clear hQ
 conv => arg 2;whnf
 refine wp_region_inv2 (fun Lb A W => ∃ (u0 u1 u2 u3 u4 u5 u6 u7 u8 u9 u10 : Bool) (vl : Value) (va : Value),Lb = #[u0,u1,u2,u3,u4,u5,u6,u7,u8,u9,u10] ∧ A = ({ tmps:=#[s0,vo,s2,s3,(bif u8 then (nth va 0) else s4),(bif u9 then (nth va 1) else s5),(bif u10 then (nth va 2) else s6),.pointer (some ⟨gH,0,none⟩),s8,s9,s10,s11,s12,s13,s14,s15,s16,s17,s18,s19,s20,(bif u0 then .agg #[h0,h1,h2,h3] else s21),(bif u1 then .agg #[h0,h1,h2,h3] else s22),(bif u2 then vo else s23),(bif u3 then vl else s24),(bif u4 then .tuple #[(nth va 0),(nth va 1),(nth va 2)] else s25),(bif u5 then (nth va 0) else s26),(bif u6 then (nth va 1) else s27),(bif u7 then (nth va 2) else s28)],defers:=[] } : Act) ∧ Below V.heap.size V W ∧ (u3 = true → Lfv n M W vl) ∧ (u4 = true → BpV fs off B W va) ∧ (u5 = true → u4 = true) ∧ (u6 = true → u4 = true) ∧ (u7 = true → u4 = true) ∧ (u8 = true → u5 = true ∧ u6 = true ∧ u7 = true) ∧ (u9 = true → u6 = true ∧ u8 = true) ∧ (u10 = true → u0 = true ∧ u1 = true ∧ u2 = true ∧ u3 = true ∧ u4 = true ∧ u5 = true ∧ u6 = true ∧ u7 = true ∧ u8 = true ∧ u9 = true)) (by kernel_rfl) (by kernel_rfl) ?h0 ?hstep ?hend
 case h0 =>
  exact ⟨false,false,false,false,false,false,false,false,false,false,false,undef,undef,rfl,rfl,Below.drew (bfl _ _),zf,zf,zf,zf,zf,zf,zf,zf⟩
 case hstep =>
  intro Lb A W hI;obtain ⟨u0,u1,u2,u3,u4,hI⟩:=hI;obtain ⟨u5,u6,u7,u8,u9,hI⟩:=hI;obtain ⟨u10,vl,va,hI⟩:=hI;obtain ⟨hLb,hI⟩:=hI;obtain ⟨hA,hI⟩:=hI;obtain ⟨kB,hI⟩:=hI;obtain ⟨kx3,hI⟩:=hI;obtain ⟨kx4,hI⟩:=hI;obtain ⟨l5,hI⟩:=hI;obtain ⟨l6,hI⟩:=hI;obtain ⟨l7,hI⟩:=hI;obtain ⟨l8,hI⟩:=hI;obtain ⟨l9,hI⟩:=hI;have kF:=hI;clear hI;subst hLb;subst hA;replace kB:=hide kB;replace kx3:=hide kx3;replace kx4:=hide kx4;replace l5:=hide l5;replace l6:=hide l6;replace l7:=hide l7;replace l8:=hide l8;replace l9:=hide l9;replace kF:=hide kF
  refine ⟨?_,?_,?_,?_,?_,?_,?_,?_,?_,?_,?_,trivial⟩
  ·intro h0 hd K hK
   have z : u0 = false:=h0;have z10_ : u10 = false:=znb fun hu => z.symm.trans ((zu kF hu).1)
   subst z10_;subst z;clear h0 hd;rw [if_pos (by rfl)];have c0:=keep1 (zu kB) (zu HC0);have c1:=keep1 (zu kB) (zu HC1);have c2:=keep1 (zu kB) (zu HC2);have c3:=keep1 (zu kB) (zu HC3);go_simp;exact zu hK _ _ ⟨true,u1,u2,u3,u4,u5,u6,u7,u8,u9,false,vl,va,rfl,rfl,zu kB,zu kx3,zu kx4,zu l5,zu l6,zu l7,zu l8,zu l9,zf⟩
  ·intro h0 hd K hK
   have z : u1 = false:=h0;have z10_ : u10 = false:=znb fun hu => z.symm.trans ((zu kF hu).2.1)
   subst z10_;subst z;clear h0 hd;rw [if_pos (by rfl)];have c0:=keep1 (zu kB) (zu HC0);have c1:=keep1 (zu kB) (zu HC1);have c2:=keep1 (zu kB) (zu HC2);have c3:=keep1 (zu kB) (zu HC3);go_simp;exact zu hK _ _ ⟨u0,true,u2,u3,u4,u5,u6,u7,u8,u9,false,vl,va,rfl,rfl,zu kB,zu kx3,zu kx4,zu l5,zu l6,zu l7,zu l8,zu l9,zf⟩
  ·intro h0 hd K hK
   have z : u2 = false:=h0;have z10_ : u10 = false:=znb fun hu => z.symm.trans ((zu kF hu).2.2.1)
   subst z10_;subst z;clear h0 hd;rw [if_pos (by rfl)];go_simp;exact zu hK _ _ ⟨u0,u1,true,u3,u4,u5,u6,u7,u8,u9,false,vl,va,rfl,rfl,zu kB,zu kx3,zu kx4,zu l5,zu l6,zu l7,zu l8,zu l9,zf⟩
  ·intro h0 hd K hK
   have z : u3 = false:=h0;have z10_ : u10 = false:=znb fun hu => z.symm.trans ((zu kF hu).2.2.2.1)
   obtain ⟨rfl,rfl⟩ : u1 = true ∧ u2 = true:=by simp [Region.binds] at hd;simp [hd]
   subst z10_;subst z;clear h0 hd;rw [if_pos (by rfl)];go_simp;refine (zu HF3 W (zu kB)).mono ?_;rintro e w8 ⟨⟨r_,rfl,hr_⟩,hb8⟩;exact zu hK _ _ ⟨u0,true,true,true,u4,u5,u6,u7,u8,u9,false,r_,va,rfl,rfl,bc (zu kB) hb8,(fun _ => hr_),(fun h => BpV.bel (zu kx4 h) hb8),zu l5,zu l6,zu l7,zu l8,zu l9,zf⟩
  ·intro h0 hd K hK
   have z : u4 = false:=h0;have z10_ : u10 = false:=znb fun hu => z.symm.trans ((zu kF hu).2.2.2.2.1)
   have z5_ : u5 = false:=znb fun hu => z.symm.trans ((zu l5 hu))
   have z6_ : u6 = false:=znb fun hu => z.symm.trans ((zu l6 hu))
   have z7_ : u7 = false:=znb fun hu => z.symm.trans ((zu l7 hu))
   have z8_ : u8 = false:=znb fun hu => z.symm.trans ((zu l5 (zu l8 hu).1))
   have z9_ : u9 = false:=znb fun hu => z.symm.trans ((zu l6 (zu l9 hu).1))
   obtain ⟨rfl,rfl⟩ : u0 = true ∧ u3 = true:=by simp [Region.binds] at hd;simp [hd]
   subst z10_;subst z5_;subst z6_;subst z7_;subst z8_;subst z9_;subst z;clear h0 hd;rw [if_pos (by rfl)];go_simp;refine (zu HF4 _ W (zu kB) (zu kx3 rfl)).mono ?_;rintro e w8 ⟨⟨r_,rfl,hr_⟩,hb8⟩;exact zu hK _ _ ⟨true,u1,u2,true,true,false,false,false,false,false,false,vl,r_,rfl,rfl,bc (zu kB) hb8,(fun h => Lfv.bel (zu kx3 h) hb8),(fun _ => hr_),zf,zf,zf,zf,zf,zf⟩
  ·intro h0 hd K hK
   have z : u5 = false:=h0;have z10_ : u10 = false:=znb fun hu => z.symm.trans ((zu kF hu).2.2.2.2.2.1)
   obtain ⟨rfl⟩ : u4 = true:=by simp [Region.binds] at hd;simp [hd]
   subst z10_;subst z;clear h0 hd;rw [if_pos (by rfl)];go_simp;exact zu hK _ _ ⟨u0,u1,u2,u3,true,true,u6,u7,u8,u9,false,vl,va,rfl,rfl,zu kB,zu kx3,zu kx4,(fun _ => rfl),(fun h => rfl),(fun h => rfl),(fun h => ⟨rfl,(zu l8 h).2.1,(zu l8 h).2.2⟩),zu l9,zf⟩
  ·intro h0 hd K hK
   have z : u6 = false:=h0;have z10_ : u10 = false:=znb fun hu => z.symm.trans ((zu kF hu).2.2.2.2.2.2.1)
   obtain ⟨rfl⟩ : u4 = true:=by simp [Region.binds] at hd;simp [hd]
   subst z10_;subst z;clear h0 hd;rw [if_pos (by rfl)];go_simp;exact zu hK _ _ ⟨u0,u1,u2,u3,true,u5,true,u7,u8,u9,false,vl,va,rfl,rfl,zu kB,zu kx3,zu kx4,(fun h => rfl),(fun _ => rfl),(fun h => rfl),(fun h => ⟨(zu l8 h).1,rfl,(zu l8 h).2.2⟩),(fun h => ⟨rfl,(zu l9 h).2⟩),zf⟩
  ·intro h0 hd K hK
   have z : u7 = false:=h0;have z10_ : u10 = false:=znb fun hu => z.symm.trans ((zu kF hu).2.2.2.2.2.2.2.1)
   obtain ⟨rfl⟩ : u4 = true:=by simp [Region.binds] at hd;simp [hd]
   subst z10_;subst z;clear h0 hd;rw [if_pos (by rfl)];go_simp;exact zu hK _ _ ⟨u0,u1,u2,u3,true,u5,u6,true,u8,u9,false,vl,va,rfl,rfl,zu kB,zu kx3,zu kx4,(fun h => rfl),(fun h => rfl),(fun _ => rfl),(fun h => ⟨(zu l8 h).1,(zu l8 h).2.1,rfl⟩),zu l9,zf⟩
  ·intro h0 hd K hK
   have z : u8 = false:=h0;have z10_ : u10 = false:=znb fun hu => z.symm.trans ((zu kF hu).2.2.2.2.2.2.2.2.1)
   obtain ⟨rfl,rfl,rfl⟩ : u5 = true ∧ u6 = true ∧ u7 = true:=by simp [Region.binds] at hd;simp [hd]
   subst z10_;subst z;clear h0 hd;rw [if_pos (by rfl)];go_simp;exact zu hK _ _ ⟨u0,u1,u2,u3,u4,true,true,true,true,u9,false,vl,va,rfl,rfl,zu kB,zu kx3,zu kx4,zu l5,zu l6,zu l7,(fun _ => ⟨rfl,rfl,rfl⟩),(fun h => ⟨rfl,rfl⟩),zf⟩
  ·intro h0 hd K hK
   have z : u9 = false:=h0;have z10_ : u10 = false:=znb fun hu => z.symm.trans ((zu kF hu).2.2.2.2.2.2.2.2.2)
   obtain ⟨rfl,rfl⟩ : u6 = true ∧ u8 = true:=by simp [Region.binds] at hd;simp [hd]
   subst z10_;subst z;clear h0 hd;rw [if_pos (by rfl)];go_simp;exact zu hK _ _ ⟨u0,u1,u2,u3,u4,u5,true,u7,true,true,false,vl,va,rfl,rfl,zu kB,zu kx3,zu kx4,zu l5,zu l6,zu l7,(fun h => ⟨(zu l8 h).1,rfl,(zu l8 h).2.2⟩),(fun _ => ⟨rfl,rfl⟩),zf⟩
  ·intro h0 hd K hK
   have z : u10 = false:=h0
   have zd0 : u0 = true ∧ u1 = true ∧ u2 = true ∧ u3 = true ∧ u4 = true ∧ u5 = true ∧ u6 = true ∧ u7 = true ∧ u8 = true ∧ u9 = true:=by
    simp [Region.binds] at hd;simp [hd]
   have zd : u0 = true ∧ u1 = true ∧ u2 = true ∧ u3 = true ∧ u4 = true ∧ u5 = true ∧ u6 = true ∧ u7 = true ∧ u8 = true ∧ u9 = true:=⟨zd0.1,zd0.2.1,zd0.2.2.1,zd0.2.2.2.1,zd0.2.2.2.2.1,zd0.2.2.2.2.2.1,zd0.2.2.2.2.2.2.1,zd0.2.2.2.2.2.2.2.1,zd0.2.2.2.2.2.2.2.2.1,zd0.2.2.2.2.2.2.2.2.2⟩
   obtain ⟨rfl,rfl,rfl,rfl,rfl,rfl,rfl,rfl,rfl,rfl⟩:=zd;subst z;clear h0 hd;rw [if_pos (by rfl)];go_simp;exact zu hK _ _ ⟨true,true,true,true,true,true,true,true,true,true,true,vl,va,rfl,rfl,zu kB,zu kx3,zu kx4,(fun _ => rfl),(fun _ => rfl),(fun _ => rfl),(fun _ => ⟨rfl,rfl,rfl⟩),(fun _ => ⟨rfl,rfl⟩),(fun _ => ⟨rfl,rfl,rfl,rfl,rfl,rfl,rfl,rfl,rfl,rfl⟩)⟩
 case hend =>
  intro Lb A W hI;obtain ⟨u0,u1,u2,u3,u4,hI⟩:=hI;obtain ⟨u5,u6,u7,u8,u9,hI⟩:=hI;obtain ⟨u10,vl,va,hI⟩:=hI;obtain ⟨hLb,hI⟩:=hI;obtain ⟨hA,hI⟩:=hI;obtain ⟨kB,hI⟩:=hI;obtain ⟨kx3,hI⟩:=hI;obtain ⟨kx4,hI⟩:=hI;obtain ⟨l5,hI⟩:=hI;obtain ⟨l6,hI⟩:=hI;obtain ⟨l7,hI⟩:=hI;obtain ⟨l8,hI⟩:=hI;obtain ⟨l9,hI⟩:=hI;have kF:=hI;clear hI;subst hLb;subst hA;intro hL
  have hl : u0 = true ∧ u1 = true ∧ u2 = true ∧ u3 = true ∧ u4 = true ∧ u5 = true ∧ u6 = true ∧ u7 = true ∧ u8 = true ∧ u9 = true ∧ u10 = true:=by
   have h2:=congrArg Array.toList hL
   simpa [List.replicate] using h2
  obtain ⟨rfl,rfl,rfl,rfl,rfl,rfl,rfl,rfl,rfl,rfl,rfl⟩:=hl;exact zu HQ  vl va W kB (kx3 rfl) (kx4 rfl)
end Go.Proofs.YtkiplmabjeadgaaGreat
