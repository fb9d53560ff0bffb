/- What the laws ask of rows of features: that two are the same, that one is made of another, how much there is of it. -/
import Derived.Test.YtkiplmabjeadgaaGreatRtSR
import Derived.Test.YtkiplmabjeadgaaGreatBdT7R
import Derived.Test.YtkiplmabjeadgaaGreatBdSqMR
import Derived.Test.YtkiplmabjeadgaaGreatCkMR
import Derived.Deep.Slices
import Derived.ChangeSame
namespace Go.Proofs.YtkiplmabjeadgaaGreat
set_option maxRecDepth 100000
set_option maxHeartbeats 16000000
open Go.ChangeShapes Go.WideShapes Go.ChangeAt Go.RowKit
set_option linter.unusedVariables false
set_option linter.unusedSimpArgs false
theorem flatG_set1 {α : Type} {c : α → List Value} {k : Nat} (hc : ∀ a,(c a).length = k) {l : List α} {i j : Nat} {a b : α} {v : Value} (h : l[i]? = some a) (hj : j < k) (hb : c b = (c a).set j v) : (flatG c l).set (i * k + j) v = flatG c (l.set i b):=by
 induction l generalizing i with
 | nil => cases h
 | cons x l ih =>
  cases i with
  | zero =>
   simp only [List.getElem?_cons_zero,Option.some.injEq] at h;subst h;simp only [Nat.zero_mul,Nat.zero_add,flatG,List.set_cons_zero];rw [List.set_append,if_pos (by rw [hc];exact hj),hb]
  | succ i =>
   have:=ih (i:=i) (by simpa using h);simp only [flatG,List.set_cons_succ];rw [List.set_append,if_neg (by rw [hc,Nat.add_mul];omega),hc,show (i + 1) * k + j - k = i * k + j by rw [Nat.add_mul];omega,this]
def mix {α : Type} (T : α → α) (l : List α) (i : Nat) : List α:=(l.take i).map T ++ l.drop i
theorem mix_zero {α : Type} (T : α → α) (l : List α) : mix T l 0 = l:=by simp [mix]
theorem mix_all {α : Type} (T : α → α) {l : List α} {i : Nat} (h : l.length ≤ i) : mix T l i = l.map T:=by
 unfold mix;rw [List.take_of_length_le h,List.drop_eq_nil_of_le h,List.append_nil]
theorem mix_at {α : Type} (T : α → α) {l : List α} {i : Nat} {a : α} (h : l[i]? = some a) : (mix T l i)[i]? = some a:=by
 have hi:=(List.getElem?_eq_some_iff.1 h).1;unfold mix;rw [List.getElem?_append_right (by rw [List.length_map,List.length_take];omega),List.length_map,List.length_take,Nat.min_eq_left (by omega),Nat.sub_self,List.getElem?_drop,Nat.add_zero,h]
theorem mix_set {α : Type} (T : α → α) {l : List α} {i : Nat} {a : α} (h : l[i]? = some a) : (mix T l i).set i (T a) = mix T l (i + 1):=by
 have hi:=(List.getElem?_eq_some_iff.1 h).1;unfold mix;have hl : ((l.take i).map T).length = i:=by rw [List.length_map,List.length_take];omega
 rw [List.set_append,if_neg (by omega),hl,Nat.sub_self,List.take_add_one,h,Option.toList_some,List.map_append,List.append_assoc]
 congr 1
 rw [List.drop_eq_getElem_cons hi];rfl
theorem mix_same {α : Type} (T : α → α) {l : List α} {i : Nat} {a : α} (h : l[i]? = some a) (e : T a = a) : mix T l (i + 1) = mix T l i:=by
 rw [← mix_set T h,e];apply List.ext_getElem?;intro j;rw [List.getElem?_set]
 split
 ·rename_i q
  subst q;have:=mix_at T h;rw [if_pos (List.getElem?_eq_some_iff.1 this).1,this]
 ·rfl
theorem own_rowc {α : Type} {c : α → List Value} {k : Nat} (hc : ∀ a,(c a).length = k) {w : World} {B t n cap : Nat} {u : Option Addr} {l : List α} (h : w.ownsRow B t k (.slice u n cap) n (flatG c l)) (h0 : n ≠ 0) :
  ∃ g,u = some ⟨g,0,none⟩ ∧ B ≤ g ∧ g < w.heap.size ∧ ∀ (i : Nat) (a : α),l[i]? = some a → ∀ (j : Nat) (v : Value),(c a)[j]? = some v → w.cell? ⟨g,i * k + j,none⟩ = some v:=by
 obtain ⟨u',c',e,_,_,h9⟩:=own_form h
 injection e with a1 a2 a3
 subst a1;obtain ⟨g,rfl,hB,hg,hx⟩:=h9 h0;exact ⟨g,rfl,hB,hg,fun i a ha j v hv => hx _ _ (flatG_at hc ha hv)⟩
theorem bel15 {B g : Nat} {w W : World} (h : Below B w W) (hg : B ≤ g) (v0 v1 v2 v3 v4 v5 v6 v7 v8 v9 v10 v11 v12 v13 v14 : Value) : Below B w (((((((((((((((W.setCell ⟨g,0,none⟩ v0).setCell ⟨g,1,none⟩ v1).setCell ⟨g,2,none⟩ v2).setCell ⟨g,3,none⟩ v3).setCell ⟨g,4,none⟩ v4).setCell ⟨g,5,none⟩ v5).setCell ⟨g,6,none⟩ v6).setCell ⟨g,7,none⟩ v7).setCell ⟨g,8,none⟩ v8).setCell ⟨g,9,none⟩ v9).setCell ⟨g,10,none⟩ v10).setCell ⟨g,11,none⟩ v11).setCell ⟨g,12,none⟩ v12).setCell ⟨g,13,none⟩ v13).setCell ⟨g,14,none⟩ v14):=by
 repeat (refine Below.setCell ?_ (show B ≤ (⟨g,_,none⟩ : Addr).block from hg) _)
 exact h
theorem cell15 {g : Nat} {W : World} {t : Nat} {x0 x1 x2 x3 x4 x5 x6 x7 x8 x9 x10 x11 x12 x13 x14 : Value} (h : vb W g t [x0,x1,x2,x3,x4,x5,x6,x7,x8,x9,x10,x11,x12,x13,x14]) (v0 v1 v2 v3 v4 v5 v6 v7 v8 v9 v10 v11 v12 v13 v14 : Value) : vb (((((((((((((((W.setCell ⟨g,0,none⟩ v0).setCell ⟨g,1,none⟩ v1).setCell ⟨g,2,none⟩ v2).setCell ⟨g,3,none⟩ v3).setCell ⟨g,4,none⟩ v4).setCell ⟨g,5,none⟩ v5).setCell ⟨g,6,none⟩ v6).setCell ⟨g,7,none⟩ v7).setCell ⟨g,8,none⟩ v8).setCell ⟨g,9,none⟩ v9).setCell ⟨g,10,none⟩ v10).setCell ⟨g,11,none⟩ v11).setCell ⟨g,12,none⟩ v12).setCell ⟨g,13,none⟩ v13).setCell ⟨g,14,none⟩ v14) g t [v0,v1,v2,v3,v4,v5,v6,v7,v8,v9,v10,v11,v12,v13,v14] :=
 ((((((((((((((h.set 0 v0).set 1 v1).set 2 v2).set 3 v3).set 4 v4).set 5 v5).set 6 v6).set 7 v7).set 8 v8).set 9 v9).set 10 v10).set 11 v11).set 12 v12).set 13 v13).set 14 v14
theorem sqs_nb {c : Cs} {m : Nat} (h : ∀ k,k < 13824 → c.by_ k ≤ m) (h1 : ∀ k,k < 13824 → c.full k = true → 1 ≤ c.by_ k) {q : Sq} (hq : q ∈ sqs c 13824) : (1 ≤ q.nb ∧ q.nb ≤ m) ∧ 1 ≤ q.sd ∧ q.sd ≤ 6:=by
 obtain ⟨k,s,hk,a1,a6,hf,ha⟩:=mem_sqs hq;have e:=sqA_bx ha;refine ⟨?_,by omega⟩;have b1:=h k hk;have b2:=h1 k hk hf;unfold sqA at ha
 split at ha
 ·simp only [Option.some.injEq] at ha
  subst ha;exact ⟨b2,b1⟩
 ·rename_i mm em
  have b3:=h mm (nbr_lt hk em)
  split at ha
  ·cases ha
  ·simp only [Option.some.injEq] at ha
   subst ha;exact ⟨by show 1 ≤ max _ _;omega,by show max _ _ ≤ m;omega⟩
theorem toldM_any (g gf gb : Nat) (u : Option Addr) (p po n cu : Nat) (fs : List Ft) (ud : Option Addr) (pd od nd cd : Nat) (D : List Nat) (o : Value) (cf cb : Nat) (c : Cs) (w : World)
  (hg : vb w g 97 [.slice u n cu,.slice ud nd cd,.slice (some ⟨gf,0,none⟩) 13824 cf,.slice (some ⟨gb,0,none⟩) 13824 cb,o]) (hc : CsM w gf gb c)
  (hl : fs.length = n) (hn : n ≤ 1048576) (hu : SlG ftc 15 w u p po fs) (hrow : ∀ f ∈ fs,f.kd = 3 → ∃ k,findN fs f.ov = some k)
  (hD : D.length = nd) (hdu : SlG natc 1 w ud pd od D) (hDl : ∀ d ∈ D,d < n) (hnd : nd ≤ 1000)
  (hby : ∀ k,k < 13824 → c.by_ k ≤ nd) (hon : ∀ k,k < 13824 → c.full k = true → 1 ≤ c.by_ k) :
  Calls Tryz.prog 79 #[.pointer (some ⟨g,0,none⟩)] w fun e w' => (∃ v,e = .returned v ∧ w'.ownsRow w.heap.size 183 8 v ((sqs c 13824).map (tld (pkt fs D))).length (flatG sqc ((sqs c 13824).map (tld (pkt fs D))))) ∧ Below w.heap.size w w':=by
 have HSM:=hide (sqsM_any g gf gb _ _ o cf cb c w hg hc);have HG:=hide (fun W (h : Below w.heap.size w W) => hg.bel h);have HU:=hide (fun W (h : Below w.heap.size w W) => hu.bel h);have HDU:=hide (fun W (h : Below w.heap.size w W) => hdu.bel h);have HL:=hide hl;have HD:=hide hD;have HDL:=hide hDl;have HRW:=hide hrow;have HNB:=hide (fun q (hq : q ∈ sqs c 13824) => sqs_nb hby hon hq);have hq9:=sqs_len c 13824;generalize sqs c 13824 = L at *
 obtain ⟨T,hT⟩ : ∃ T,tld (pkt fs D) = T:=⟨_,rfl⟩
 have HT:=hide hT;rw [hT]
 obtain ⟨qn,hqn⟩ : ∃ q,L.length = q:=⟨_,rfl⟩
 have HQN:=hide hqn;rw [List.length_map];rw [hqn] at HSM hq9 ⊢;clear hg hc hl hu hrow hD hdu hDl hby hon hT hqn;go_enter Tryz.func79,Tryz.ntmps79;go_wp2_with fail;refine (zu HSM).mono ?_;rintro e W1 ⟨⟨v,rfl,hr⟩,hb⟩;have HR:=hide hr;have HB:=hide hb;obtain ⟨uo,co,rfl,_⟩:=own_form hr;clear hr hb HSM;go_wp2_with fail
 go_loopw [4] (fun s W => ∃ i : Nat,s = .int .i64 (i : Int) ∧ i ≤ qn ∧ W.ownsRow w.heap.size 183 8 (.slice uo qn co) qn (flatG sqc (mix T L i)) ∧ Below w.heap.size w W) (fun s _ => qn - (intOf s).toNat)
 case atStart => exact ⟨0,rfl,Nat.zero_le _,by rw [mix_zero];exact zu HR,zu HB⟩
 case round =>
  clear HR HB;obtain ⟨i,rfl,hi,hr,hb⟩:=hrel;have HR:=hide hr;have HB:=hide hb
  by_cases h : i < qn
  ·have i1 : (i : Int) < (qn : Int):=by omega
   have i0 : (0 : Int) ≤ (i : Int):=Int.natCast_nonneg _;have iz : decide ((i : Int) < (qn : Int)) = true:=dt i1;have wi : IntKind.i64.wrap ((i : Int) + 1) = ((i + 1 : Nat) : Int):=(wrap_i (by omega) (by omega)).trans (by simp);obtain ⟨q,hq⟩:=get_some (zu HQN) h;have hqm:=mix_at T hq;obtain ⟨go,rfl,hgo,hgl,hcells⟩:=own_rowc sqc_len hr (by omega);have kb:=hcells i q hqm 0 _ rfl;have ks:=hcells i q hqm 1 _ rfl;rw [Nat.add_zero] at kb;have hnb:=zu HNB q (List.mem_of_getElem? hq);obtain ⟨⟨n1,n2⟩,s1,s2⟩:=hnb
   have HTQ : Hid (T q = if pkt fs D q.nb = true then ⟨q.nb,opp q.sd,q.bx⟩ else q):=hide (by rw [← zu HT];rfl);have HMS:=hide (mix_set T hq);have HMZ:=hide (mix_same T hq);have HQM:=hide hqm;have HGL:=hide hgl;have hfz : ∀ o,wr.frozen? ⟨go,o,none⟩ = false:=own_frz hr
   -- the feature
   obtain ⟨bm,hbm⟩ : ∃ bm,q.nb = bm + 1:=⟨q.nb - 1,by omega⟩
   obtain ⟨dd,hdd⟩:=get_some (zu HD) (show bm < nd by omega);have hddn:=zu HDL dd (List.mem_of_getElem? hdd);obtain ⟨f,hf⟩:=get_some (zu HL) hddn;obtain ⟨rfl,_,hdc⟩:=(zu HDU _ hb).at hdd;have kd0:=hdc 0 _ rfl;rw [Nat.mul_one,Nat.add_zero] at kd0
   have hfu:=((zu HU _ hb).at15 hf)
   obtain ⟨rfl,f0,f1,f2,f3,f4,f5,f6,f7,f8,f9,f10,f11,f12,f13,f14⟩:=hfu
   have hpk : pkt fs D q.nb = decide (kdF fs f = 2):=by
    unfold pkt;have e1 : D.getD (q.nb - 1) 0 = dd:=by rw [hbm,Nat.add_sub_cancel,List.getD_eq_getElem?_getD,hdd];rfl
    have e2 : fs.getD dd ft0 = f:=getD_at hf;rw [e1,e2,dt (show q.nb ≠ 0 by omega),Bool.true_and]
   have HPK:=hide hpk;have wb : IntKind.i64.wrap ((q.nb : Int) - 1) = (bm : Int):=(wrap_i (by omega) (by omega)).trans (by omega);have kg:=zu HG _ hb;have kg0:=kg.cell (m:=0) rfl;have kg1:=kg.cell (m:=1) rfl;have HFR:=hide (zu HRW f (List.mem_of_getElem? hf));have hbmn : bm < nd:=by omega
   have HOP:=hide (fun W => mOpp_any q.sd W ⟨s1,s2⟩);have HX1:=hide (hide h);have HX2:=hide (hide hbmn);have HX3:=hide (hide hddn);have HX4:=hide (hide wb);have HGO:=hide hgo;clear hr hb hq hqm hcells hdd hf hdc hpk hbm n1 n2 s1 s2 kg hddn hbmn wb hfz hgl;go_wp2_with fail;refine Go.Code.wp_mono (Only.to (fun _ _ h => h)) (td5 (hide kg0) (hide kg1) (hide kb) (hide kd0) (hide f0) (hide f1) (hide f2) (hide f3) (hide f4) (hide f5) (hide f6) (hide f7) (hide f8) (hide f9) (hide f10) (hide f11) (hide f12) (hide f13) (hide f14) (zu HX1) (zu HX4) (zu HX2) (zu HX3) ?_)
   intro n18 W9 hb9 hv9 hn9;have HB9:=hide (bc (zu HB) hb9);have HR9:=hide (own_bel (zu HR) hb9);have HV9:=hide hv9;have HL9:=hide (Nat.lt_of_lt_of_le (zu HGL) hb9.size);have e3:=hv9.cell (m:=3) rfl;clear kg0 kg1 kb kd0 f0 f1 f2 f3 f4 f5 f6 f7 f8 f9 f10 f11 f12 f13 f14 hb9
   by_cases hk3 : f.kd = 3
   ·obtain ⟨k2,hk2f⟩:=zu HFR hk3
    obtain ⟨f',hf'⟩:=get_some (zu HL) (show k2 < n by have:=findN_lt hk2f;rw [zu HL] at this;exact this)
    have hkd : kdF fs f = f'.kd:=by
     unfold kdF ofF;rw [if_pos hk3,hk2f,Option.getD_some,getD_at hf']
    have hk2n : k2 < n:=by have:=findN_lt hk2f;rw [zu HL] at this;exact this
    have HFI:=hide (fun W (h : Below w.heap.size w W) => (by
     have:=find_any (some ⟨p,po,none⟩) p po n cu fs f.ov W (zu HL) hn (zu HU W h);rw [findI_some hk2f] at this
     exact this.mono (by rintro e w' ⟨rfl,rfl⟩;exact ⟨rfl,bfl _ _⟩) : Calls Tryz.prog 75 #[.slice (some ⟨p,po,none⟩) n cu,.string f.ov] W fun e w' => e = .returned (.int .i64 (k2 : Int)) ∧ Below W.heap.size W w'))
    obtain ⟨_,f0,f1,f2,f3,f4,f5,f6,f7,f8,f9,f10,f11,f12,f13,f14⟩:=(zu HU _ (zu HB9)).at15 hf';have kg0:=(zu HG _ (zu HB9)).cell (m:=0) rfl;have t3 : (f.kd == 3) = true:=by rw [hk3];rfl
    have HX5:=hide (hide hk2n);have HKD:=hide hkd;have q0:=(zu HV9).cell (m:=0) rfl;have q1:=(zu HV9).cell (m:=1) rfl;have q2:=(zu HV9).cell (m:=2) rfl;have q4:=(zu HV9).cell (m:=4) rfl;have q5:=(zu HV9).cell (m:=5) rfl;have q6:=(zu HV9).cell (m:=6) rfl;have q7:=(zu HV9).cell (m:=7) rfl;have q8:=(zu HV9).cell (m:=8) rfl;have q9:=(zu HV9).cell (m:=9) rfl;have q10:=(zu HV9).cell (m:=10) rfl;have q11:=(zu HV9).cell (m:=11) rfl;have q12:=(zu HV9).cell (m:=12) rfl;have q13:=(zu HV9).cell (m:=13) rfl;have q14:=(zu HV9).cell (m:=14) rfl
    have hfz:=hide (zu HV9).frozen;have hv9l:=(zu HV9).lt;clear hk2f hf' hkd hk2n hk3;go_wp2_with fail;refine Go.Code.wp_mono (Only.to (fun _ _ h => h)) (td7 (hide kg0) (hide q2) (hide f0) (hide f1) (hide f2) (hide f3) (hide f4) (hide f5) (hide f6) (hide f7) (hide f8) (hide f9) (hide f10) (hide f11) (hide f12) (hide f13) (hide f14) hv9l (hide q0) (hide q1) (hide q2) (hide e3) (hide q4) (hide q5) (hide q6) (hide q7) (hide q8) (hide q9) (hide q10) (hide q11) (hide q12) (hide q13) (hide q14) hfz (hide fun X hX => zu HFI X (bc (zu HB9) hX)) (zu HX5) ?_);intro W1 W10 hW10 hb10
    have HB10 : Hid (Below w.heap.size w W10):=hide (by rw [hW10];exact bel15 (bc (zu HB9) hb10) (by have:=(zu HB).size;omega) _ _ _ _ _ _ _ _ _ _ _ _ _ _ _)
    have HR10 : Hid (W10.ownsRow w.heap.size 183 8 (.slice (some ⟨go,0,none⟩) qn co) qn (flatG sqc (mix T L i))):=hide (own_kept (own_bel (zu HR9) hb10) (fun j hj => by
     have hj' : j ≠ n18:=by have:=own_ge (zu HR) j hj;omega
     have:=bel15 (B:=n18) (bfl n18 W1) (Nat.le_refl _) (.string f'.nm) (.string f'.on) (.string f'.ov) (.int .i64 f'.kd) (.int .i64 f'.sd) (.int .i64 f'.x0) (.int .i64 f'.y0) (.int .i64 f'.z0) (.int .i64 f'.x1) (.int .i64 f'.y1) (.int .i64 f'.z1) (.int .i64 f'.ct) (.int .i64 f'.dx) (.int .i64 f'.dy) (.int .i64 f'.dz);rw [hW10]
     exact this.block j (by have:=own_ge (zu HR) j hj;omega)))
    have hv10:=cell15 ((zu HV9).bel hb10) (.string f'.nm) (.string f'.on) (.string f'.ov) (.int .i64 f'.kd) (.int .i64 f'.sd) (.int .i64 f'.x0) (.int .i64 f'.y0) (.int .i64 f'.z0) (.int .i64 f'.x1) (.int .i64 f'.y1) (.int .i64 f'.z1) (.int .i64 f'.ct) (.int .i64 f'.dx) (.int .i64 f'.dy) (.int .i64 f'.dz);rw [← hW10] at hv10;have e3:=hv10.cell (m:=3) rfl;clear hW10 hb10 hv10 kg0 f0 f1 f2 f3 f4 f5 f6 f7 f8 f9 f10 f11 f12 f13 f14 q0 q1 q2 q4 q5 q6 q7 q8 q9 q10 q11 q12 q13 q14 hfz hv9l;generalize f'.kd = kq at *
    by_cases hk2 : kq = 2
    ·have t1 : (kq == 2) = true:=by rw [hk2];rfl
     have t2 : decide (kq = 2) = true:=dt hk2;have KK : kdF fs f = 2:=(zu HKD).trans hk2;have HKP : Hid (pkt fs D q.nb = true):=hide (by rw [zu HPK];exact dt KK);have HTP : Hid (T q = ⟨q.nb,opp q.sd,q.bx⟩):=hide (by rw [zu HTQ,if_pos (zu HKP)]);obtain ⟨go',eg,_,hgl',hcl⟩:=own_rowc sqc_len (zu HR10) (by omega)
     cases eg
     have ks:=hcl i q (zu HQM) 1 _ rfl;have fz : W10.frozen? ⟨go,i * 8 + 1,none⟩ = false:=own_frz (zu HR10) _;have HRN:=hide (own_set (zu HR10) (i * 8 + 1) (.int .i64 ((opp q.sd : Nat) : Int)));have hset:=flatG_set1 (c:=sqc) (k:=8) sqc_len (l:=mix T L i) (i:=i) (j:=1) (a:=q) (b:=⟨q.nb,opp q.sd,q.bx⟩) (v:=.int .i64 ((opp q.sd : Nat) : Int)) (zu HQM) (by omega) rfl;rw [hset,← zu HTP,zu HMS] at HRN;have HBN:=hide (Below.setCell (zu HB10) (show w.heap.size ≤ (⟨go,i * 8 + 1,none⟩ : Addr).block from zu HGO) (.int .i64 ((opp q.sd : Nat) : Int)));clear hset hcl hgl'
     go_wp2_with fail;refine (zu HOP _).mono ?_;rintro e W4 ⟨rfl,rfl⟩;go_wp2_with fail;go_roundw
     case rel => exact ⟨i + 1,by simp,h,zu HRN,zu HBN⟩
     case measure => simp only [intOf];omega
    ·have t1 : (kq == 2) = false:=by simpa using hk2
     have t2 : decide (kq = 2) = false:=df hk2;have KK : kdF fs f ≠ 2:=fun e => hk2 ((zu HKD).symm.trans e)
     have HTP : Hid (T q = q):=hide (by rw [zu HTQ,if_neg (by rw [zu HPK];simpa using KK)]);have HRN:=hide (zu HR10);rw [← zu HMZ (zu HTP)] at HRN;go_wp2_with fail;go_roundw
     case rel => exact ⟨i + 1,by simp,h,zu HRN,zu HB10⟩
     case measure => simp only [intOf];omega
   ·have t3 : (f.kd == 3) = false:=by simpa using hk3
    have hkd : kdF fs f = f.kd:=by unfold kdF;rw [if_neg hk3]
    have HKD:=hide hkd;clear hkd;generalize f.kd = kq at *
    by_cases hk2 : kq = 2
    ·have t1 : (kq == 2) = true:=by rw [hk2];rfl
     have t2 : decide (kq = 2) = true:=dt hk2;have KK : kdF fs f = 2:=(zu HKD).trans hk2;have HKP : Hid (pkt fs D q.nb = true):=hide (by rw [zu HPK];exact dt KK);have HTP : Hid (T q = ⟨q.nb,opp q.sd,q.bx⟩):=hide (by rw [zu HTQ,if_pos (zu HKP)]);obtain ⟨go',eg,_,hgl',hcl⟩:=own_rowc sqc_len (zu HR9) (by omega)
     cases eg
     have ks:=hcl i q (zu HQM) 1 _ rfl;have fz : W9.frozen? ⟨go,i * 8 + 1,none⟩ = false:=own_frz (zu HR9) _;have HRN:=hide (own_set (zu HR9) (i * 8 + 1) (.int .i64 ((opp q.sd : Nat) : Int)));have hset:=flatG_set1 (c:=sqc) (k:=8) sqc_len (l:=mix T L i) (i:=i) (j:=1) (a:=q) (b:=⟨q.nb,opp q.sd,q.bx⟩) (v:=.int .i64 ((opp q.sd : Nat) : Int)) (zu HQM) (by omega) rfl;rw [hset,← zu HTP,zu HMS] at HRN;have HBN:=hide (Below.setCell (zu HB9) (show w.heap.size ≤ (⟨go,i * 8 + 1,none⟩ : Addr).block from zu HGO) (.int .i64 ((opp q.sd : Nat) : Int)));clear hset hcl hgl'
     go_wp2_with fail;refine (zu HOP _).mono ?_;rintro e W4 ⟨rfl,rfl⟩;go_wp2_with fail;go_roundw
     case rel => exact ⟨i + 1,by simp,h,zu HRN,zu HBN⟩
     case measure => simp only [intOf];omega
    ·have t1 : (kq == 2) = false:=by simpa using hk2
     have t2 : decide (kq = 2) = false:=df hk2;have KK : kdF fs f ≠ 2:=fun e => hk2 ((zu HKD).symm.trans e)
     have HTP : Hid (T q = q):=hide (by rw [zu HTQ,if_neg (by rw [zu HPK];simpa using KK)]);have HRN:=hide (zu HR9);rw [← zu HMZ (zu HTP)] at HRN;go_wp2_with fail;go_roundw
     case rel => exact ⟨i + 1,by simp,h,zu HRN,zu HB9⟩
     case measure => simp only [intOf];omega
  ·have i1 : ¬ (i : Int) < (qn : Int):=by omega
   have iz : decide ((i : Int) < (qn : Int)) = false:=df i1;have HE:=hide (mix_all T (l:=L) (i:=i) (by rw [zu HQN];omega));clear hr hb;go_wp2_with fail;go_ret;exact ⟨⟨_,rfl,by rw [← zu HE];exact zu HR⟩,zu HB⟩
open Go.ChangeShapes Go.WideShapes Go.ChangeAt Go.RowKit Go.Deep
theorem addr_add_none (p po j : Nat) : (⟨p,po,none⟩ : Addr).add j = ⟨p,po + j,none⟩:=by
 unfold Addr.add
 split <;> simp_all
theorem one_at {cs : List Value} {o : Nat} {v : Value} (h : (cs.drop o).take 1 = [v]) : cs[o]? = some v:=by
 have h5 : ((cs.drop o).take 1)[0]? = some v:=by rw [h];rfl
 simpa [List.getElem?_take,List.getElem?_drop] using h5
theorem cells3 : Tryz.prog.cellsOf 3 = 1:=by kernel_rfl
theorem cells9 : Tryz.prog.cellsOf 9 = 1:=by kernel_rfl
theorem cells39 : Tryz.prog.cellsOf 67 = 6:=by kernel_rfl
theorem cells41 : Tryz.prog.cellsOf 69 = 15:=by kernel_rfl
theorem open_fts {H : Type} {enc : TypeId × Value → H} {w : World} {base : Nat} {spare : Nat → Bool} {held : Bool} {fuel : Nat} {cs : List Value} {x : DataW H × List MemPlace}
  (h : DataW.trod enc Tryz.prog w base spare held fuel 22 cs = some x) :
  ∃ (u : Option Addr) (n cap p po : Nat) (fs : List Ft),cs = [.slice u n cap] ∧ n ≤ 9223372036854775807 ∧ fs.length = n ∧ (∀ f ∈ fs,f.nm.size ≤ maxLen ∧ f.on.size ≤ maxLen ∧ f.ov.size ≤ maxLen) ∧ SlG ftc 15 w u p po fs:=by
 rcases open_slice Tryz.underlying22 h with ⟨rfl,_⟩ | ⟨a,len,cap,m,n,D,Pl,rfl,hb,hl,hm,hmm,_,hx⟩
 ·exact ⟨none,0,0,0,0,[],rfl,by omega,rfl,by simp,fun h => absurd rfl h⟩
 have hlm : len ≤ m:=by rw [hmm];split <;> omega
 have each : ∀ i,i < len → ∃ f : Ft,(f.nm.size ≤ maxLen ∧ f.on.size ≤ maxLen ∧ f.ov.size ≤ maxLen) ∧ ∀ (j : Nat) (v : Value),(ftc f)[j]? = some v → w.cell? (a.add (i * 15 + j)) = some v:=by
  intro i hi;obtain ⟨cs',h1,h2⟩:=hx i (by omega);rw [cells41] at h1;obtain ⟨_,hlen,hcell⟩:=World.cells?_some h1;obtain ⟨xs,q,_,_,_,hxl,hff⟩:=DataW.trod_struct Tryz.underlying69 h2;have hxl' : xs.length = 10:=by simpa using hxl
  have g : ∀ j,j < 10 → ∃ y,xs[j]? = some y:=fun j hj => ⟨xs[j]'(by omega),List.getElem?_eq_getElem _⟩
  obtain ⟨q0,e0⟩:=g 0 (by omega);have t0 : DataW.trod enc Tryz.prog w base spare held q 9 ((cs'.drop 0).take (Tryz.prog.cellsOf 9)) = xs[0]?:=hff 0 _ rfl;rw [e0] at t0;obtain ⟨a0,hy0,_,hs0⟩:=DataW.trod_string Tryz.underlying9 t0;rw [cells9] at hy0;have c0:=one_at hy0;obtain ⟨q1,e1⟩:=g 1 (by omega);have t1 : DataW.trod enc Tryz.prog w base spare held q 9 ((cs'.drop 1).take (Tryz.prog.cellsOf 9)) = xs[1]?:=hff 1 _ rfl;rw [e1] at t1;obtain ⟨a1,hy1,_,hs1⟩:=DataW.trod_string Tryz.underlying9 t1;rw [cells9] at hy1;have c1:=one_at hy1;obtain ⟨q2,e2⟩:=g 2 (by omega)
  have t2 : DataW.trod enc Tryz.prog w base spare held q 9 ((cs'.drop 2).take (Tryz.prog.cellsOf 9)) = xs[2]?:=hff 2 _ rfl;rw [e2] at t2;obtain ⟨a2,hy2,_,hs2⟩:=DataW.trod_string Tryz.underlying9 t2;rw [cells9] at hy2;have c2:=one_at hy2;obtain ⟨q3,e3⟩:=g 3 (by omega);have t3 : DataW.trod enc Tryz.prog w base spare held q 3 ((cs'.drop 3).take (Tryz.prog.cellsOf 3)) = xs[3]?:=hff 3 _ rfl;rw [e3] at t3;obtain ⟨b3,hy3,_,_⟩:=DataW.trod_int Tryz.underlying3 t3;rw [cells3] at hy3;have c3:=one_at hy3;obtain ⟨q4,e4⟩:=g 4 (by omega)
  have t4 : DataW.trod enc Tryz.prog w base spare held q 3 ((cs'.drop 4).take (Tryz.prog.cellsOf 3)) = xs[4]?:=hff 4 _ rfl;rw [e4] at t4;obtain ⟨b4,hy4,_,_⟩:=DataW.trod_int Tryz.underlying3 t4;rw [cells3] at hy4;have c4:=one_at hy4;obtain ⟨q6,e6⟩:=g 6 (by omega);have t6 : DataW.trod enc Tryz.prog w base spare held q 3 ((cs'.drop 11).take (Tryz.prog.cellsOf 3)) = xs[6]?:=hff 6 _ rfl;rw [e6] at t6;obtain ⟨b11,hy6,_,_⟩:=DataW.trod_int Tryz.underlying3 t6;rw [cells3] at hy6;have c11:=one_at hy6;obtain ⟨q7,e7⟩:=g 7 (by omega)
  have t7 : DataW.trod enc Tryz.prog w base spare held q 3 ((cs'.drop 12).take (Tryz.prog.cellsOf 3)) = xs[7]?:=hff 7 _ rfl;rw [e7] at t7;obtain ⟨b12,hy7,_,_⟩:=DataW.trod_int Tryz.underlying3 t7;rw [cells3] at hy7;have c12:=one_at hy7;obtain ⟨q8,e8⟩:=g 8 (by omega);have t8 : DataW.trod enc Tryz.prog w base spare held q 3 ((cs'.drop 13).take (Tryz.prog.cellsOf 3)) = xs[8]?:=hff 8 _ rfl;rw [e8] at t8;obtain ⟨b13,hy8,_,_⟩:=DataW.trod_int Tryz.underlying3 t8;rw [cells3] at hy8;have c13:=one_at hy8;obtain ⟨q9,e9⟩:=g 9 (by omega)
  have t9 : DataW.trod enc Tryz.prog w base spare held q 3 ((cs'.drop 14).take (Tryz.prog.cellsOf 3)) = xs[9]?:=hff 9 _ rfl;rw [e9] at t9;obtain ⟨b14,hy9,_,_⟩:=DataW.trod_int Tryz.underlying3 t9;rw [cells3] at hy9;have c14:=one_at hy9;obtain ⟨q5,e5⟩:=g 5 (by omega);have t5 : DataW.trod enc Tryz.prog w base spare held q 67 ((cs'.drop 5).take (Tryz.prog.cellsOf 67)) = xs[5]?:=hff 5 _ rfl;rw [e5] at t5;obtain ⟨ys,r,_,_,_,hyl,hgg⟩:=DataW.trod_struct Tryz.underlying67 t5;have hyl' : ys.length = 6:=by simpa using hyl
  have g6 : ∀ j,j < 6 → ∃ y,ys[j]? = some y:=fun j hj => ⟨ys[j]'(by omega),List.getElem?_eq_getElem _⟩
  obtain ⟨p0,f0⟩:=g6 0 (by omega);have s0 : DataW.trod enc Tryz.prog w base spare held r 3 ((((cs'.drop 5).take (Tryz.prog.cellsOf 67)).drop 0).take (Tryz.prog.cellsOf 3)) = ys[0]?:=hgg 0 _ rfl;rw [f0] at s0;obtain ⟨d0,hz0,_,_⟩:=DataW.trod_int Tryz.underlying3 s0;rw [cells3,cells39] at hz0
  have c5 : cs'[5]? = some (.int .i64 d0):=by
   have h7:=one_at hz0;rw [List.getElem?_take,if_pos (by omega),List.getElem?_drop] at h7;exact h7
  obtain ⟨p1,f1⟩:=g6 1 (by omega);have s1 : DataW.trod enc Tryz.prog w base spare held r 3 ((((cs'.drop 5).take (Tryz.prog.cellsOf 67)).drop 1).take (Tryz.prog.cellsOf 3)) = ys[1]?:=hgg 1 _ rfl;rw [f1] at s1;obtain ⟨d1,hz1,_,_⟩:=DataW.trod_int Tryz.underlying3 s1;rw [cells3,cells39] at hz1
  have c6 : cs'[6]? = some (.int .i64 d1):=by
   have h7:=one_at hz1;rw [List.getElem?_take,if_pos (by omega),List.getElem?_drop] at h7;exact h7
  obtain ⟨p2,f2⟩:=g6 2 (by omega);have s2 : DataW.trod enc Tryz.prog w base spare held r 3 ((((cs'.drop 5).take (Tryz.prog.cellsOf 67)).drop 2).take (Tryz.prog.cellsOf 3)) = ys[2]?:=hgg 2 _ rfl;rw [f2] at s2;obtain ⟨d2,hz2,_,_⟩:=DataW.trod_int Tryz.underlying3 s2;rw [cells3,cells39] at hz2
  have c7 : cs'[7]? = some (.int .i64 d2):=by
   have h7:=one_at hz2;rw [List.getElem?_take,if_pos (by omega),List.getElem?_drop] at h7;exact h7
  obtain ⟨p3,f3⟩:=g6 3 (by omega);have s3 : DataW.trod enc Tryz.prog w base spare held r 3 ((((cs'.drop 5).take (Tryz.prog.cellsOf 67)).drop 3).take (Tryz.prog.cellsOf 3)) = ys[3]?:=hgg 3 _ rfl;rw [f3] at s3;obtain ⟨d3,hz3,_,_⟩:=DataW.trod_int Tryz.underlying3 s3;rw [cells3,cells39] at hz3
  have c8 : cs'[8]? = some (.int .i64 d3):=by
   have h7:=one_at hz3;rw [List.getElem?_take,if_pos (by omega),List.getElem?_drop] at h7;exact h7
  obtain ⟨p4,f4⟩:=g6 4 (by omega);have s4 : DataW.trod enc Tryz.prog w base spare held r 3 ((((cs'.drop 5).take (Tryz.prog.cellsOf 67)).drop 4).take (Tryz.prog.cellsOf 3)) = ys[4]?:=hgg 4 _ rfl;rw [f4] at s4;obtain ⟨d4,hz4,_,_⟩:=DataW.trod_int Tryz.underlying3 s4;rw [cells3,cells39] at hz4
  have c9 : cs'[9]? = some (.int .i64 d4):=by
   have h7:=one_at hz4;rw [List.getElem?_take,if_pos (by omega),List.getElem?_drop] at h7;exact h7
  obtain ⟨p5,f5⟩:=g6 5 (by omega);have s5 : DataW.trod enc Tryz.prog w base spare held r 3 ((((cs'.drop 5).take (Tryz.prog.cellsOf 67)).drop 5).take (Tryz.prog.cellsOf 3)) = ys[5]?:=hgg 5 _ rfl;rw [f5] at s5;obtain ⟨d5,hz5,_,_⟩:=DataW.trod_int Tryz.underlying3 s5;rw [cells3,cells39] at hz5
  have c10 : cs'[10]? = some (.int .i64 d5):=by
   have h7:=one_at hz5;rw [List.getElem?_take,if_pos (by omega),List.getElem?_drop] at h7;exact h7
  refine ⟨⟨a0,a1,a2,b3,b4,d0,d1,d2,d3,d4,d5,b11,b12,b13,b14⟩,⟨hs0,hs1,hs2⟩,fun j v hj => ?_⟩;have hjl : j < 15:=by have:=(List.getElem?_eq_some_iff.1 hj).1;rw [ftc_len] at this;exact this
  have hcs : cs'[j]? = some v:=by
   rw [← hj]
   match j,hjl with
   | 0,_ => exact c0
   | 1,_ => exact c1
   | 2,_ => exact c2
   | 3,_ => exact c3
   | 4,_ => exact c4
   | 5,_ => exact c5
   | 6,_ => exact c6
   | 7,_ => exact c7
   | 8,_ => exact c8
   | 9,_ => exact c9
   | 10,_ => exact c10
   | 11,_ => exact c11
   | 12,_ => exact c12
   | 13,_ => exact c13
   | 14,_ => exact c14
  rw [← hcs,← hcell j hjl,add_add]
 have hmx : len ≤ 9223372036854775807:=by unfold maxLen at hm;omega
 by_cases hn : len = 0
 ·subst hn
  exact ⟨some a,0,cap,0,0,[],rfl,by omega,rfl,by simp,fun h => absurd rfl h⟩
 obtain ⟨p,po,sp⟩:=a
 have hsp : sp = none:=by
  obtain ⟨f,_,hy⟩:=each 0 (by omega);have hy:=hy 0 _ rfl
  cases sp with
  | none => rfl
  | some s =>
   simp only [Addr.add,World.cell?] at hy
   split at hy <;> simp at hy
 subst hsp
 have hex : ∃ fs : List Ft,fs.length = len ∧ (∀ f ∈ fs,f.nm.size ≤ maxLen ∧ f.on.size ≤ maxLen ∧ f.ov.size ≤ maxLen) ∧ ∀ (i : Nat) (f : Ft),fs[i]? = some f → ∀ (j : Nat) (v : Value),(ftc f)[j]? = some v → w.cell? ((⟨p,po,none⟩ : Addr).add (i * 15 + j)) = some v:=by
  have : ∀ k,k ≤ len → ∃ fs : List Ft,fs.length = k ∧ (∀ f ∈ fs,f.nm.size ≤ maxLen ∧ f.on.size ≤ maxLen ∧ f.ov.size ≤ maxLen) ∧ ∀ (i : Nat) (f : Ft),fs[i]? = some f → ∀ (j : Nat) (v : Value),(ftc f)[j]? = some v → w.cell? ((⟨p,po,none⟩ : Addr).add (i * 15 + j)) = some v:=by
   intro k
   induction k with
   | zero => intro _;exact ⟨[],rfl,by simp,by simp⟩
   | succ k ih =>
    intro hk;obtain ⟨fs,h1,h2,h3⟩:=ih (by omega);obtain ⟨f,h4,h5⟩:=each k (by omega);refine ⟨fs ++ [f],by simp [h1],?_,?_⟩
    ·intro x hx
     rcases List.mem_append.1 hx with e | e
     ·exact h2 x e
     ·simp only [List.mem_singleton] at e;subst e;exact h4
    ·intro i x hi j v hj
     by_cases e : i < k
     ·rw [List.getElem?_append_left (by omega)] at hi
      exact h3 i x hi j v hj
     ·rw [List.getElem?_append_right (by omega)] at hi
      have e0 : i - fs.length = 0:=by
       rcases Nat.eq_zero_or_pos (i - fs.length) with e | e
       ·exact e
       ·rw [List.getElem?_eq_none (by simp;omega)] at hi;cases hi
      rw [e0] at hi
      cases hi
      have ei : i = k:=by omega
      subst ei;exact h5 j v hj
  exact this len (Nat.le_refl _)
 obtain ⟨fs,h1,h2,h3⟩:=hex;refine ⟨_,len,cap,p,po,fs,rfl,hmx,h1,h2,fun _ => ⟨rfl,?_,?_⟩⟩
 ·obtain ⟨f,_,h0⟩:=each 0 (by omega)
  have h0:=h0 0 _ rfl;rw [addr_add_none] at h0;exact cell_lt h0
 ·intro i f hi j v hj
  have:=h3 i f hi j v hj;rw [addr_add_none,← Nat.add_assoc] at this;exact this
theorem bxE_one (x0 y0 z0 x1 y1 z1 : Int) (w : World) : Calls Tryz.prog 56 #[.agg #[.int .i64 x0,.int .i64 y0,.int .i64 z0,.int .i64 x1,.int .i64 y1,.int .i64 z1],.agg #[.int .i64 x0,.int .i64 y0,.int .i64 z0,.int .i64 x1,.int .i64 y1,.int .i64 z1]] w fun e w' => e = .returned (.bool true) ∧ Below w.heap.size w w':=by
 go_enter Tryz.func56,Tryz.ntmps56;go_wp2;go_ret;exact ⟨rfl,ba (ba (bfl _ _) _) _⟩
theorem ftE_one (s o v : ByteArray) (k d x0 y0 z0 x1 y1 z1 ct dx dy dz : Int) (w : World) : Calls Tryz.prog 51 #[.agg #[.string s,.string o,.string v,.int .i64 k,.int .i64 d,.int .i64 x0,.int .i64 y0,.int .i64 z0,.int .i64 x1,.int .i64 y1,.int .i64 z1,.int .i64 ct,.int .i64 dx,.int .i64 dy,.int .i64 dz],.agg #[.string s,.string o,.string v,.int .i64 k,.int .i64 d,.int .i64 x0,.int .i64 y0,.int .i64 z0,.int .i64 x1,.int .i64 y1,.int .i64 z1,.int .i64 ct,.int .i64 dx,.int .i64 dy,.int .i64 dz]] w fun e w' => e = .returned (.bool true) ∧ Below w.heap.size w w':=by
 have HB:=hide (fun W => bxE_one x0 y0 z0 x1 y1 z1 W);have V1:=hide ((vb_new w 75 (ftc ⟨s,o,v,k,d,x0,y0,z0,x1,y1,z1,ct,dx,dy,dz⟩) _ rfl).bel (ba (bfl _ _) (.cells (ftc ⟨s,o,v,k,d,x0,y0,z0,x1,y1,z1,ct,dx,dy,dz⟩).toArray 75)));have V2:=hide (vb_new (w.alloc (.cells (ftc ⟨s,o,v,k,d,x0,y0,z0,x1,y1,z1,ct,dx,dy,dz⟩).toArray 75)) 75 (ftc ⟨s,o,v,k,d,x0,y0,z0,x1,y1,z1,ct,dx,dy,dz⟩) _ rfl);simp only [World.size_alloc] at V2;go_enter Tryz.func51,Tryz.ntmps51;go_wp2_with fail;refine (zu HB _).mono ?_;rintro e W1 ⟨rfl,hb⟩
 have a1:=((zu V1).bel hb).cell (m:=11) rfl;have a2:=((zu V1).bel hb).cell (m:=12) rfl;have a3:=((zu V1).bel hb).cell (m:=13) rfl;have a4:=((zu V1).bel hb).cell (m:=14) rfl;have b1:=((zu V2).bel hb).cell (m:=11) rfl;have b2:=((zu V2).bel hb).cell (m:=12) rfl;have b3:=((zu V2).bel hb).cell (m:=13) rfl;have b4:=((zu V2).bel hb).cell (m:=14) rfl;simp only at a1 a2 a3 a4 b1 b2 b3 b4
 have HB1:=hide (bc (ba (ba (bfl w.heap.size w) (.cells #[.string s,.string o,.string v,.int .i64 k,.int .i64 d,.int .i64 x0,.int .i64 y0,.int .i64 z0,.int .i64 x1,.int .i64 y1,.int .i64 z1,.int .i64 ct,.int .i64 dx,.int .i64 dy,.int .i64 dz] 75)) (.cells #[.string s,.string o,.string v,.int .i64 k,.int .i64 d,.int .i64 x0,.int .i64 y0,.int .i64 z0,.int .i64 x1,.int .i64 y1,.int .i64 z1,.int .i64 ct,.int .i64 dx,.int .i64 dy,.int .i64 dz] 75)) hb);clear hb;go_wp2_with fail;go_ret;exact ⟨rfl,zu HB1⟩
theorem ft_same (u v : Option Addr) (p po q qo n cu cv : Nat) (fs : List Ft) (w : World) (hl : fs.length = n) (hn : n ≤ 1048576) (hu : SlG ftc 15 w u p po fs) (hv : SlG ftc 15 w v q qo fs) :
  Calls Tryz.prog 17 #[.slice u n cu,.slice v n cv] w fun e w' => e = .returned (.bool true) ∧ Below w.heap.size w w':=by
 have HU:=hide hu;have HV:=hide hv;have HL:=hide hl;clear hu hv hl;go_enter Tryz.func17,Tryz.ntmps17;go_wp2
 go_loopw [5] (fun s W => ∃ i : Nat,s = .int .i64 (i : Int) ∧ i ≤ n ∧ Below w.heap.size w W) (fun s _ => n - (intOf s).toNat)
 case atStart => exact ⟨0,rfl,Nat.zero_le _,bfl _ _⟩
 case round =>
  obtain ⟨i,rfl,hi,hw⟩:=hrel;have HW:=hide hw;clear hw
  by_cases h : i < n
  ·have i1 : (i : Int) < (n : Int):=by omega
   have i0 : (0 : Int) ≤ (i : Int):=Int.natCast_nonneg _;have iz : decide ((i : Int) < (n : Int)) = true:=dt i1;obtain ⟨⟨s,o,v,k,d,x0,y0,z0,x1,y1,z1,ct,dx,dy,dz⟩,hx⟩:=get_some (zu HL) h;obtain ⟨rfl,k0,k1,k2,k3,k4,k5,k6,k7,k8,k9,k10,k11,k12,k13,k14⟩:=((zu HU).bel (zu HW)).at15 hx;obtain ⟨rfl,l0,l1,l2,l3,l4,l5,l6,l7,l8,l9,l10,l11,l12,l13,l14⟩:=((zu HV).bel (zu HW)).at15 hx;simp only at k0 k1 k2 k3 k4 k5 k6 k7 k8 k9 k10 k11 k12 k13 k14 l0 l1 l2 l3 l4 l5 l6 l7 l8 l9 l10 l11 l12 l13 l14;clear hx;go_wp2_with fail
   go_region_held3 (fun wx => wx.cell? ⟨p,po + i * 15,none⟩ = some (.string s) ∧ wx.cell? ⟨p,po + i * 15 + 1,none⟩ = some (.string o) ∧ wx.cell? ⟨p,po + i * 15 + 2,none⟩ = some (.string v) ∧ wx.cell? ⟨p,po + i * 15 + 3,none⟩ = some (.int .i64 k) ∧ wx.cell? ⟨p,po + i * 15 + 4,none⟩ = some (.int .i64 d) ∧ wx.cell? ⟨p,po + i * 15 + 5,none⟩ = some (.int .i64 x0) ∧ wx.cell? ⟨p,po + i * 15 + 6,none⟩ = some (.int .i64 y0) ∧ wx.cell? ⟨p,po + i * 15 + 7,none⟩ = some (.int .i64 z0) ∧ wx.cell? ⟨p,po + i * 15 + 8,none⟩ = some (.int .i64 x1) ∧ wx.cell? ⟨p,po + i * 15 + 9,none⟩ = some (.int .i64 y1) ∧ wx.cell? ⟨p,po + i * 15 + 10,none⟩ = some (.int .i64 z1) ∧ wx.cell? ⟨p,po + i * 15 + 11,none⟩ = some (.int .i64 ct) ∧ wx.cell? ⟨p,po + i * 15 + 12,none⟩ = some (.int .i64 dx) ∧ wx.cell? ⟨p,po + i * 15 + 13,none⟩ = some (.int .i64 dy) ∧ wx.cell? ⟨p,po + i * 15 + 14,none⟩ = some (.int .i64 dz) ∧ wx.cell? ⟨q,qo + i * 15,none⟩ = some (.string s) ∧ wx.cell? ⟨q,qo + i * 15 + 1,none⟩ = some (.string o) ∧ wx.cell? ⟨q,qo + i * 15 + 2,none⟩ = some (.string v) ∧ wx.cell? ⟨q,qo + i * 15 + 3,none⟩ = some (.int .i64 k) ∧ wx.cell? ⟨q,qo + i * 15 + 4,none⟩ = some (.int .i64 d) ∧ wx.cell? ⟨q,qo + i * 15 + 5,none⟩ = some (.int .i64 x0) ∧ wx.cell? ⟨q,qo + i * 15 + 6,none⟩ = some (.int .i64 y0) ∧ wx.cell? ⟨q,qo + i * 15 + 7,none⟩ = some (.int .i64 z0) ∧ wx.cell? ⟨q,qo + i * 15 + 8,none⟩ = some (.int .i64 x1) ∧ wx.cell? ⟨q,qo + i * 15 + 9,none⟩ = some (.int .i64 y1) ∧ wx.cell? ⟨q,qo + i * 15 + 10,none⟩ = some (.int .i64 z1) ∧ wx.cell? ⟨q,qo + i * 15 + 11,none⟩ = some (.int .i64 ct) ∧ wx.cell? ⟨q,qo + i * 15 + 12,none⟩ = some (.int .i64 dx) ∧ wx.cell? ⟨q,qo + i * 15 + 13,none⟩ = some (.int .i64 dy) ∧ wx.cell? ⟨q,qo + i * 15 + 14,none⟩ = some (.int .i64 dz))
    (simp (maxDischargeDepth:=12) [go_sem,le1,lt1, *])
    (first
    | (go_at_call 51;refine (ftE_one _ _ _ _ _ _ _ _ _ _ _ _ _ _ _ _).mono ?_;rintro e w' ⟨rfl,hb⟩;have HB:=hide hb;have ya0:=keep1 hb (b:=p) (o:=_) (v:=.string s) k0;have ya1:=keep1 hb (b:=p) (o:=_) (v:=.string o) k1;have ya2:=keep1 hb (b:=p) (o:=_) (v:=.string v) k2;have ya3:=keep1 hb (b:=p) (o:=_) (v:=.int .i64 k) k3;have ya4:=keep1 hb (b:=p) (o:=_) (v:=.int .i64 d) k4;have ya5:=keep1 hb (b:=p) (o:=_) (v:=.int .i64 x0) k5;have ya6:=keep1 hb (b:=p) (o:=_) (v:=.int .i64 y0) k6;have ya7:=keep1 hb (b:=p) (o:=_) (v:=.int .i64 z0) k7;have ya8:=keep1 hb (b:=p) (o:=_) (v:=.int .i64 x1) k8;have ya9:=keep1 hb (b:=p) (o:=_) (v:=.int .i64 y1) k9;have ya10:=keep1 hb (b:=p) (o:=_) (v:=.int .i64 z1) k10;have ya11:=keep1 hb (b:=p) (o:=_) (v:=.int .i64 ct) k11;have ya12:=keep1 hb (b:=p) (o:=_) (v:=.int .i64 dx) k12;have ya13:=keep1 hb (b:=p) (o:=_) (v:=.int .i64 dy) k13;have ya14:=keep1 hb (b:=p) (o:=_) (v:=.int .i64 dz) k14;have za0:=keep1 hb (b:=q) (o:=_) (v:=.string s) l0;have za1:=keep1 hb (b:=q) (o:=_) (v:=.string o) l1;have za2:=keep1 hb (b:=q) (o:=_) (v:=.string v) l2;have za3:=keep1 hb (b:=q) (o:=_) (v:=.int .i64 k) l3;have za4:=keep1 hb (b:=q) (o:=_) (v:=.int .i64 d) l4;have za5:=keep1 hb (b:=q) (o:=_) (v:=.int .i64 x0) l5;have za6:=keep1 hb (b:=q) (o:=_) (v:=.int .i64 y0) l6;have za7:=keep1 hb (b:=q) (o:=_) (v:=.int .i64 z0) l7;have za8:=keep1 hb (b:=q) (o:=_) (v:=.int .i64 x1) l8;have za9:=keep1 hb (b:=q) (o:=_) (v:=.int .i64 y1) l9;have za10:=keep1 hb (b:=q) (o:=_) (v:=.int .i64 z1) l10;have za11:=keep1 hb (b:=q) (o:=_) (v:=.int .i64 ct) l11;have za12:=keep1 hb (b:=q) (o:=_) (v:=.int .i64 dx) l12;have za13:=keep1 hb (b:=q) (o:=_) (v:=.int .i64 dy) l13;have za14:=keep1 hb (b:=q) (o:=_) (v:=.int .i64 dz) l14;clear hb))
   all_goals
    go_wp2_with fail;go_roundw
    case rel => exact ⟨i + 1,by simp,h,by repeat (first | exact zu HW | refine bc ?_ (zu HB) | refine Below.drew ?_)⟩
    case measure => simp only [intOf];omega
  ·have i1 : ¬ (i : Int) < (n : Int):=by omega
   have iz : decide ((i : Int) < (n : Int)) = false:=df i1;go_wp2_with fail;go_ret;exact ⟨rfl,zu HW⟩
end Go.Proofs.YtkiplmabjeadgaaGreat
