/- Statements of the model's told squares that draw their order, walked alone. -/
import Derived.Test.YtkiplmabjeadgaaGreatBdS22R
import Derived.Test.YtkiplmabjeadgaaGreatBdP16R
import Derived.Test.YtkiplmabjeadgaaGreatBdMemR
import Derived.Test.YtkiplmabjeadgaaGreatNmAtR
import Derived.Deep.LoopGhost
import Derived.Test.YtkiplmabjeadgaaGreatRunesR
namespace Go.Proofs.YtkiplmabjeadgaaGreat
set_option maxRecDepth 100000
set_option maxHeartbeats 16000000
open Go.ChangeShapes Go.WideShapes Go.ChangeAt Go.RowKit
set_option linter.unusedVariables false
set_option linter.unusedSimpArgs false
theorem stand_any (s o v : ByteArray) (k d x0 y0 z0 x1 y1 z1 n dx dy dz : Int) (w : World) (ho : o.size ≤ maxLen) : Calls Tryz.prog 173 #[ftv ⟨s,o,v,k,d,x0,y0,z0,x1,y1,z1,n,dx,dy,dz⟩] w fun e w' => e = .returned (.bool (if o.toList = [] then d == 0 else nameB o && btw d 1 6)) ∧ Below w.heap.size w w':=by
 have N:=hide (fun W => implName_any o W ho);have B:=hide (fun W => btw_any d 1 6 W);unfold ftv;generalize nameB o = b at *;generalize btw d 1 6 = c at *
 by_cases eo : o.toList = []
 ·rw [if_pos eo]
  go_enter Tryz.func173,Tryz.ntmps173;go_wp2;go_ret;exact ⟨rfl,ba (bfl _ _) _⟩
 ·rw [if_neg eo]
  have eo' : (o.toList == []) = false:=by simpa using eo
  go_enter Tryz.func173,Tryz.ntmps173;go_wp2_with fail;refine (zu N _).mono ?_;rintro e W1 ⟨rfl,hb⟩;have c4:=keep1 hb (b:=w.heap.size) (o:=4) (v:=.int .i64 d) (by simp [go_sem])
  cases b
  ·go_wp2_with fail
   go_ret;exact ⟨rfl,bc (ba (bfl _ _) _) hb⟩
  go_wp2_with fail;refine (zu B _).mono ?_;rintro e W2 ⟨rfl,rfl⟩
  cases c <;> (go_wp2_with fail) <;> (go_ret;exact ⟨rfl,bc (ba (bfl _ _) _) hb⟩)
theorem step_any (s o v : ByteArray) (k d x0 y0 z0 x1 y1 z1 n dx dy dz : Int) (w : World) : Calls Tryz.prog 174 #[ftv ⟨s,o,v,k,d,x0,y0,z0,x1,y1,z1,n,dx,dy,dz⟩] w fun e w' => e = .returned (.bool (inG dx && inG dy && inG dz && decide (dx ≠ 0 ∨ dy ≠ 0 ∨ dz ≠ 0))) ∧ Below w.heap.size w w':=by
 have B0:=hide (fun W => btw_any dx (-24) 24 W);have B1:=hide (fun W => btw_any dy (-24) 24 W);have B2:=hide (fun W => btw_any dz (-24) 24 W);have e0 : ∀ x,btw x (-24) 24 = inG x:=fun _ => rfl
 rw [e0] at B0 B1 B2;generalize inG dx = b0 at *;generalize inG dy = b1 at *;generalize inG dz = b2 at *;have V0:=hide (vb_new w 75 (ftc ⟨s,o,v,k,d,x0,y0,z0,x1,y1,z1,n,dx,dy,dz⟩) _ rfl);unfold ftv;go_enter Tryz.func174,Tryz.ntmps174;go_wp2;have HV:=hide (vb_new (w.alloc (.cells (ftc ⟨s,o,v,k,d,x0,y0,z0,x1,y1,z1,n,dx,dy,dz⟩).toArray 75)) 3 [.int .i64 dx,.int .i64 dy,.int .i64 dz] _ rfl)
 have HB:=hide (ba (ba (bfl w.heap.size w) (.cells (ftc ⟨s,o,v,k,d,x0,y0,z0,x1,y1,z1,n,dx,dy,dz⟩).toArray 75)) (.cells #[.int .i64 dx,.int .i64 dy,.int .i64 dz] 3));have HU:=hide ((zu V0).bel (ba (bfl _ _) (.cells #[.int .i64 dx,.int .i64 dy,.int .i64 dz] 3)));simp only [World.size_alloc] at HV
 go_loopw [13] (fun u W => ∃ i : Nat,u = .int .i64 (i : Int) ∧ i ≤ 3 ∧ vb W (w.heap.size + 1) 3 [.int .i64 dx,.int .i64 dy,.int .i64 dz] ∧ vb W w.heap.size 75 (ftc ⟨s,o,v,k,d,x0,y0,z0,x1,y1,z1,n,dx,dy,dz⟩) ∧ (0 < i → b0 = true) ∧ (1 < i → b1 = true) ∧ (2 < i → b2 = true) ∧ Below w.heap.size w W) (fun u _ => 3 - (intOf u).toNat)
 case atStart => exact ⟨0,rfl,by omega,zu HV,zu HU,fun h => by omega,fun h => by omega,fun h => by omega,zu HB⟩
 case round =>
  obtain ⟨i,rfl,hi,hv,hu,h0,h1,h2,hw⟩:=hrel;have HW:=hide hw;clear hw HV HB V0 HU;have c0:=hv.cell (m:=0) rfl;have c1:=hv.cell (m:=1) rfl;have c2:=hv.cell (m:=2) rfl;have d0:=hu.cell (m:=12) rfl;have d1:=hu.cell (m:=13) rfl;have d2:=hu.cell (m:=14) rfl;simp only at d0 d1 d2;have V:=hide hv;have U:=hide hu;have H0:=hide h0;have H1:=hide h1;have H2:=hide h2;clear hv h0 h1 h2 hu;have hc : i = 0 ∨ i = 1 ∨ i = 2 ∨ i = 3:=by omega
  rcases hc with rfl | rfl | rfl | rfl
  ·clear d0 d1 d2
   go_wp2_with fail;refine (zu B0 _).mono ?_;rintro e W2 ⟨rfl,rfl⟩
   cases b0
   ·go_wp2_with fail
    go_ret;exact ⟨rfl,zu HW⟩
   go_wp2_with fail;go_roundw
   case rel => exact ⟨1,rfl,by omega,zu V,zu U,fun _ => by first | rfl | simp,fun h => by omega,fun h => by omega,zu HW⟩
   case measure => simp [intOf]
  ·have k0:=zu H0 (by omega)
   clear d0 d1 d2;subst k0;go_wp2_with fail;refine (zu B1 _).mono ?_;rintro e W2 ⟨rfl,rfl⟩
   cases b1
   ·go_wp2_with fail
    go_ret;exact ⟨rfl,zu HW⟩
   go_wp2_with fail;go_roundw
   case rel => exact ⟨2,rfl,by omega,zu V,zu U,fun _ => by first | rfl | simp,fun _ => by first | rfl | simp,fun h => by omega,zu HW⟩
   case measure => simp [intOf]
  ·have k0:=zu H0 (by omega)
   have k1:=zu H1 (by omega);clear d0 d1 d2;subst k0;subst k1;go_wp2_with fail;refine (zu B2 _).mono ?_;rintro e W2 ⟨rfl,rfl⟩
   cases b2
   ·go_wp2_with fail
    go_ret;exact ⟨rfl,zu HW⟩
   go_wp2_with fail;go_roundw
   case rel => exact ⟨3,rfl,by omega,zu V,zu U,fun _ => by first | rfl | simp,fun _ => by first | rfl | simp,fun _ => by first | rfl | simp,zu HW⟩
   case measure => simp [intOf]
  ·have k0:=zu H0 (by omega)
   have k1:=zu H1 (by omega);have k2:=zu H2 (by omega);clear c0 c1 c2;subst k0;subst k1;subst k2;go_wp2
   all_goals
    go_ret;refine ⟨ret_bool ?_,zu HW⟩
    first | rfl | (simp;done) | (simp;omega) | (simp [*];done) | (rw [Bool.eq_iff_iff];simp;omega)
theorem getD_atB {l : List Bx} {i : Nat} {b : Bx} (h : l[i]? = some b) : l.getD i bx0 = b:=by rw [List.getD_eq_getElem?_getD,h];rfl
def natc (k : Nat) : List Value:=[.int .i64 (k : Int)]
theorem natc_len (k : Nat) : (natc k).length = 1:=rfl
theorem natc_one (k : Nat) : ∀ u ∈ natc k,u.oneCell' = true:=by intro u hu;simp only [natc,List.mem_singleton] at hu;subst hu;rfl
theorem own_pop {α : Type} {c : α → List Value} {w : World} {B t k n cap : Nat} {u : Option Addr} {l : List α} {x : α} (hc : ∀ a,(c a).length = k) (h : w.ownsRow B t k (.slice u (n + 1) cap) (n + 1) (flatG c (l ++ [x]))) (hl : l.length = n) :
  w.ownsRow B t k (.slice u n cap) n (flatG c l):=by
 rcases h.2 with ⟨h1,h2⟩ | ⟨g,cp,cur,hv,hB,hh,hn,hm,hs,ht⟩
 ·cases h1
 ·injection hv with a1 a2 a3
  subst a1;subst a3;refine ⟨by rw [flatG_len hc,hl],.inr ⟨g,cap,cur,rfl,hB,hh,by omega,hm,hs,?_⟩⟩
  have e : (cur.toList.take ((n + 1) * k)).take (n * k) = flatG c l:=by
   rw [ht,flatG_append,List.take_append_of_le_length (by rw [flatG_len hc,hl];exact Nat.le_refl _),List.take_of_length_le (by rw [flatG_len hc,hl];exact Nat.le_refl _)]
  rw [List.take_take,Nat.min_eq_left (Nat.mul_le_mul_right k (by omega))] at e;exact e
theorem own_last {α : Type} {c : α → List Value} {w : World} {B t k n cap : Nat} {u : Option Addr} {l : List α} {x : α} (hc : ∀ a,(c a).length = k) (h : w.ownsRow B t k (.slice u (n + 1) cap) (n + 1) (flatG c (l ++ [x]))) (hl : l.length = n) :
  ∃ g,u = some ⟨g,0,none⟩ ∧ B ≤ g ∧ g < w.heap.size ∧ ∀ j v,(c x)[j]? = some v → w.cell? ⟨g,n * k + j,none⟩ = some v:=by
 obtain ⟨u',c',e,_,_,h9⟩:=own_form h
 injection e with a1 a2 a3
 subst a1;obtain ⟨g,rfl,hB,hg,hx⟩:=h9 (by omega);refine ⟨g,rfl,hB,hg,fun j v hv => hx _ _ (flatG_at hc (i:=n) ?_ hv)⟩;rw [List.getElem?_append_right (by omega),hl,Nat.sub_self];rfl
theorem seen_put {n k : Nat} {S : Nat → Bool} {w : World} {g : Nat} (h : vb w g 4 (fnL n fun j => .bool (S j))) : vb (w.setCell ⟨g,k,none⟩ (.bool true)) g 4 (fnL n fun j => .bool (if j = k then true else S j)):=by
 have:=h.set k (.bool true);rw [fnL_set] at this;refine cast ?_ this
 congr 2
 funext j
 split <;> rfl
theorem piecesM_any (u : Option Addr) (p po n cu : Nat) (l : List Bx) (w : World) (hl : l.length = n) (hn : n ≤ 200000) (hb : ∀ b ∈ l,bxS 1000 b) (hu : SlG bxc 6 w u p po l) :
  Calls Tryz.prog 115 #[.slice u n cu] w fun e w' => e = .returned (.int .i64 ((pcsL l : Nat) : Int)) ∧ Below w.heap.size w w':=by
 obtain ⟨iT,ht,ht0,ht1,ht2⟩:=info_parts info3
 obtain ⟨tf,htt⟩ : ∃ t,tcl l = t:=⟨_,rfl⟩
 have hpl : pcsL l = pcs tf n n:=by unfold pcsL;rw [htt,hl]
 rw [hpl];have hpn:=pcs_le tf n;have hps : ∀ i,i < n → Sn tf n i i → pcs tf n (i + 1) = pcs tf n i:=fun i _ h => pcs_seen h
 have hpw : ∀ i,i < n → ¬ Sn tf n i i → pcs tf n (i + 1) = pcs tf n i + 1:=fun i _ h => pcs_new h
 have HPN:=hide hpn;have HPS:=hide hps;have HPW:=hide hpw;have HTT:=hide htt;have HL:=hide hl;have HB:=hide hb;have HU:=hide hu;have hmk:=make_vals (P:=Tryz.prog) 95 4 1 n (.bool false) rfl Tryz.underlying95 info4 (by omega) (by omega) w;have hfr : (List.replicate n (Value.bool false)) = fnL n (fun j => .bool ((fun _ : Nat => false) j)):=fnL_rep n _;rw [hfr] at hmk;have HS0 : Hid (vb (w.alloc (.cells (fnL n (fun j => .bool ((fun _ : Nat => false) j))).toArray 4)) w.heap.size 4 (fnL n (fun j => .bool ((fun _ : Nat => false) j)))):=hide (vb_new w 4 _ _ rfl)
 have HD0 : Hid (Below w.heap.size w (w.alloc (.cells (fnL n (fun j => .bool ((fun _ : Nat => false) j))).toArray 4))):=hide (ba (bfl _ _) _);clear hpn hps hpw htt hl hb hu hfr hpl;go_enter Tryz.func115,Tryz.ntmps115;go_wp2_with fail
 go_loopw [3,5] (fun v s W => ∃ (i : Nat) (S : Nat → Bool),s = .int .i64 (i : Int) ∧ i ≤ n ∧ v = .int .i64 ((pcs tf n i : Nat) : Int) ∧ (∀ k,k < n → (S k = true ↔ Sn tf n i k)) ∧ vb W w.heap.size 4 (fnL n fun k => .bool (S k)) ∧ Below w.heap.size w W) (fun _ s _ => n - (intOf s).toNat)
 case atStart => exact ⟨0,fun _ => false,rfl,Nat.zero_le _,rfl,fun k _ => ⟨fun h => (by cases h),fun ⟨j,hj,_⟩ => (by omega)⟩,zu HS0,zu HD0⟩
 case round =>
  obtain ⟨i,S,rfl,hi,rfl,hS,hv,hd⟩:=hrel;have HS:=hide hS;have HV:=hide hv;have HD:=hide hd;have hpi:=pcs_le tf n i
  obtain ⟨pq,hpq⟩ : ∃ q,pcs tf n i = q:=⟨_,rfl⟩
  have HPQ:=hide hpq;rw [hpq] at hpi ⊢;have hlt:=hv.lt;clear hpq
  by_cases h : i < n
  ·have i1 : (i : Int) < (n : Int):=by omega
   have i0 : (0 : Int) ≤ (i : Int):=Int.natCast_nonneg _;have iz : decide ((i : Int) < (n : Int)) = true:=dt i1;have wi : IntKind.i64.wrap ((i : Int) + 1) = ((i + 1 : Nat) : Int):=(wrap_i (by omega) (by omega)).trans (by simp);have c0:=hv.cell (fnL_at _ h);obtain ⟨bi,hbi⟩:=get_some (zu HL) h;obtain ⟨rfl,hpw,_⟩:=(zu HU).at hbi;clear hbi
   cases hs : S i with
   | true =>
    have hse:=(hS i h).1 hs;rw [hs] at c0;have HN:=hide (zu HPS i h hse);have HSN : Hid (∀ k,k < n → (S k = true ↔ Sn tf n (i + 1) k)):=hide (fun k hk => (zu HS k hk).trans (Sn.seen hse).symm);clear hs hse hS hv hd;go_wp2_with fail;go_roundw
    case rel => exact ⟨i + 1,S,by simp,h,by rw [zu HN,zu HPQ],zu HSN,zu HV,zu HD⟩
    case measure => simp only [intOf];omega
   | false =>
    have hne : ¬ Sn tf n i i:=fun q => by have:=(hS i h).2 q;rw [hs] at this;cases this
    rw [hs] at c0;have HN:=hide (zu HPW i h hne);have wq : IntKind.i64.wrap ((pq : Int) + 1) = ((pq + 1 : Nat) : Int):=(wrap_i (by omega) (by omega)).trans (by simp);have fz:=hv.frozen i;have HWK:=hide (Walk.start h hS);have HV1:=hide (seen_put (k:=i) hv);have HD1 : Hid (Below w.heap.size w (wr.setCell ⟨w.heap.size,i,none⟩ (.bool true))):=hide (Below.setCell hd (Nat.le_refl _) (p:=⟨w.heap.size,i,none⟩) (.bool true));have hsz : (wr.setCell ⟨w.heap.size,i,none⟩ (.bool true)).heap.size = wr.heap.size:=by simp [World.setCell]
    have HR1 : Hid (((wr.setCell ⟨w.heap.size,i,none⟩ (.bool true)).alloc (.cells #[.int .i64 (i : Int)] 3)).ownsRow (w.heap.size + 1) 3 1 (.slice (some ⟨wr.heap.size,0,none⟩) 1 1) 1 (flatG natc [i])):=hide ((vb_new _ 3 [.int .i64 (i : Int)] wr.heap.size hsz.symm).owns (by omega) rfl (by decide));have HV2:=hide ((zu HV1).bel (ba (bfl _ _) (.cells #[.int .i64 (i : Int)] 3)));have HD2:=hide (ba (zu HD1) (.cells #[.int .i64 (i : Int)] 3));clear hs hne hS hv hd hsz HS HV HD HV1 HD1;go_wp2_with fail;clear c0 fz
    go_loopg [6] (n + 1) (fun gg v W => ∃ (S : Nat → Bool) (st : List Nat) (m : Nat),uns n S + st.length ≤ gg ∧ st.length = m ∧ gg ≤ n + 1 ∧ Walk tf n i S st ∧ W.ownsRow (w.heap.size + 1) 3 1 v m (flatG natc st) ∧ vb W w.heap.size 4 (fnL n fun k => .bool (S k)) ∧ Below w.heap.size w W)
    case atStart => exact ⟨_,[i],1,by have:=uns_le n (fun k => if k = i then true else S k);simp only [List.length_singleton];omega,rfl,Nat.le_refl _,zu HWK,zu HR1,zu HV2,zu HD2⟩
    case round =>
     clear HWK HR1 HV2 HD2;obtain ⟨S,st,m,hun,hsl,hmn,hwk,hrow,hv,hd⟩:=hrel;have HUN:=hide hun;have HV:=hide hv;have HD:=hide hd;have HR:=hide hrow;have HWK:=hide hwk;obtain ⟨us,cs,rfl,hcs,_⟩:=own_form hrow;have hlt2:=hv.lt;clear hrow hv hd hwk hlt
     by_cases hm : m = 0
     ·have d1 : decide (0 < m) = false:=df (by omega)
      have d2 : decide ((m : Int) > 0) = false:=df (by omega);have d3 : ¬ (m : Int) > 0:=by omega
      have d4 : decide ((0 : Int) < (m : Int)) = false:=df (by omega)
      have HEN : Hid (∀ k,k < n → (S k = true ↔ Sn tf n (i + 1) k)):=hide (by
       have : st = []:=List.eq_nil_of_length_eq_zero (by omega);subst this
       exact (zu HWK).done h)
      clear hm hun hsl;go_wp2_with fail;go_roundw
      case rel => exact ⟨i + 1,S,by simp,h,by rw [zu HN,zu HPQ];simp,zu HEN,zu HV,zu HD⟩
      case measure => simp only [intOf];omega
     ·obtain ⟨st',ae,rfl⟩ : ∃ st' ae,st = st' ++ [ae]:=by
       rcases List.eq_nil_or_concat st with e | ⟨a,b,e⟩
       ·subst e;simp at hsl;omega
       ·exact ⟨a,b,by simpa using e⟩
      obtain ⟨mp,hmp⟩ : ∃ q,st'.length = q:=⟨_,rfl⟩
      have hmm : m = mp + 1:=by simp at hsl;omega
      have d1 : decide (0 < m) = true:=dt (by omega);have d2 : decide ((m : Int) > 0) = true:=dt (by omega);have d3 : (m : Int) > 0:=by omega
      have d4 : decide ((0 : Int) < (m : Int)) = true:=dt (by omega);have wm : IntKind.i64.wrap ((m : Int) - 1) = (mp : Int):=(wrap_i (by omega) (by omega)).trans (by omega);have p0 : (0 : Int) ≤ (mp : Int):=Int.natCast_nonneg _;have p1 : (mp : Int) < (m : Int):=by omega
      have p2 : (mp : Int) ≤ (cs : Int):=by omega
      have p3 : mp ≤ cs:=by omega
      have p4 : mp < m:=by omega
      have hrw : wr.ownsRow (w.heap.size + 1) 3 1 (.slice us (mp + 1) cs) (mp + 1) (flatG natc (st' ++ [ae])):=by rw [← hmm];exact zu HR
      obtain ⟨gq,rfl,hgq1,hgq2,hgc⟩:=own_last natc_len hrw hmp;have cl:=hgc 0 _ rfl;rw [Nat.mul_one,Nat.add_zero] at cl;have HR2:=hide (own_pop natc_len hrw hmp);have HLK:=hide (zu HWK).look;have hae : ae < n:=(zu HLK).at_.1;have HMP:=hide hmp;have hq00:=zu HUN;simp only [List.length_append,List.length_singleton] at hq00
      obtain ⟨q0,hq0⟩ : ∃ q,uns n S + st'.length = q:=⟨_,rfl⟩
      have HQE:=hide hq0;have hqg : q0 + 1 ≤ _:=Nat.le_trans (by omega) hq00;have hqn : q0 ≤ n:=by omega
      have HMM:=hide hmm;have hmp30 : mp ≤ n:=by omega
      clear hmp hmm hrw hgc HR HWK hq0 hsl hun HUN hq00 hm;go_wp2_with fail;clear cl
      go_loopw [6,8] (fun v s W => ∃ (k : Nat) (S : Nat → Bool) (st : List Nat) (t : Nat),s = .int .i64 (k : Int) ∧ k ≤ n ∧ t ≤ mp + k ∧ Look tf n i ae k S st ∧ uns n S + st.length = q0 ∧ st.length = t ∧ W.ownsRow (w.heap.size + 1) 3 1 v t (flatG natc st) ∧ vb W w.heap.size 4 (fnL n fun k => .bool (S k)) ∧ Below w.heap.size w W) (fun _ s _ => n - (intOf s).toNat)
      case atStart => exact ⟨0,S,st',mp,rfl,Nat.zero_le _,by omega,zu HLK,zu HQE,zu HMP,zu HR2,zu HV,zu HD⟩
      case round =>
       clear HLK HQE HMP HR2 HV HD hlt2;obtain ⟨k,S,st,t,rfl,hk,htk,hlk,hun,hsl,hrow,hv,hd⟩:=hrel;have HUN:=hide hun;have HV:=hide hv;have HD:=hide hd;have HR:=hide hrow;have HLK:=hide hlk;have HSL:=hide hsl;obtain ⟨us,cs2,rfl,_⟩:=own_form hrow;have hge:=own_ge hrow;have HGE:=hide hge;have hlt3:=hv.lt;clear hrow hd hlk hun hsl hge
       by_cases h' : k < n
       ·have j1 : (k : Int) < (n : Int):=by omega
        have j0 : (0 : Int) ≤ (k : Int):=Int.natCast_nonneg _;have jz : decide ((k : Int) < (n : Int)) = true:=dt j1;have wk : IntKind.i64.wrap ((k : Int) + 1) = ((k + 1 : Nat) : Int):=(wrap_i (by omega) (by omega)).trans (by simp);have cs:=hv.cell (fnL_at _ h');have HNH:=hide (hide h')
        cases hsk : S k with
        | true =>
         rw [hsk] at cs;have HNL:=hide ((zu HLK).skip (fun _ => hsk));clear hv hsk;go_wp2_with fail;refine Go.Code.wp_mono (Only.to (fun _ _ h => h)) (pc16t (hide cs) (zu HNH) ?_);intro W9 hb9;have HD9:=hide (bc (zu HD) hb9);have HV9:=hide ((zu HV).bel hb9);have HR9:=hide (own_bel (zu HR) hb9);clear hb9 cs;go_wp2_with fail;go_roundw
         case rel => exact ⟨k + 1,S,st,t,by simp,h',by omega,zu HNL,zu HUN,zu HSL,zu HR9,zu HV9,zu HD9⟩
         case measure => simp only [intOf];omega
        | false =>
         rw [hsk] at cs;obtain ⟨ba',hba⟩:=get_some (zu HL) hae;obtain ⟨bb',hbb⟩:=get_some (zu HL) h';have sa:=zu HB ba' (List.mem_of_getElem? hba);have sb:=zu HB bb' (List.mem_of_getElem? hbb);have htv : tf ae k = tch ba' bb':=by rw [← zu HTT];unfold tcl;rw [getD_atB hba,getD_atB hbb]
         have HTO:=hide (fun X => touch_any ba' bb' X sa sb);have xa:=((zu HU).bel (zu HD)).at hba;have xb:=((zu HU).bel (zu HD)).at hbb;have aa:=xa.2.2;have bb:=xb.2.2;rw [← htv] at HTO;clear sa sb hba hbb xa xb htv;obtain ⟨a0,a1,a2,a3,a4,a5⟩:=ba';obtain ⟨b0,b1,b2,b3,b4,b5⟩:=bb';have HNA:=hide (hide hae);have HSK:=hide hsk;have HLE:=hide ((zu HLK).skip (K:=k));have HLP:=hide ((zu HLK).push (K:=k) h');have HUP:=hide (uns_push (S:=S) (K:=k) hsk h');have fz:=hv.frozen k;generalize tf ae k = tv at *;clear hv hsk;go_wp2_with fail
         refine Go.Code.wp_mono (Only.to (fun _ _ h => h)) (pc16f (tt:=tv) (hide cs) (hide (aa 0 _ rfl)) (hide (aa 1 _ rfl)) (hide (aa 2 _ rfl)) (hide (aa 3 _ rfl)) (hide (aa 4 _ rfl)) (hide (aa 5 _ rfl)) (hide (bb 0 _ rfl)) (hide (bb 1 _ rfl)) (hide (bb 2 _ rfl)) (hide (bb 3 _ rfl)) (hide (bb 4 _ rfl)) (hide (bb 5 _ rfl)) (zu HNH) (zu HNA) (zu HNH) (hide fun X _ => zu HTO X) ?_);intro W9 hb9;have HD9:=hide (bc (zu HD) hb9);have HV9:=hide ((zu HV).bel hb9);have HR9:=hide (own_bel (zu HR) hb9);have hl9:=hb9.size;clear hb9 cs aa bb fz
         cases tv with
         | false =>
          have HNL:=hide (zu HLE (fun h => by cases h));go_wp2_with fail;go_roundw
          case rel => exact ⟨k + 1,S,st,t,by simp,h',by omega,zu HNL,zu HUN,zu HSL,zu HR9,zu HV9,zu HD9⟩
          case measure => simp only [intOf];omega
         | true =>
          have HNL:=hide (zu HLP rfl);have c9:=(zu HV9).cell (fnL_at _ h');rw [zu HSK] at c9;have f9:=(zu HV9).frozen k;have HV10:=hide (seen_put (k:=k) (zu HV9));have HD10 : Hid (Below w.heap.size w (W9.setCell ⟨w.heap.size,k,none⟩ (.bool true))):=hide (Below.setCell (zu HD9) (Nat.le_refl _) (p:=⟨w.heap.size,k,none⟩) (.bool true));have HR10:=hide (own_kept (zu HR9) (w':=W9.setCell ⟨w.heap.size,k,none⟩ (.bool true)) (fun j hj => Below.heap_setCell _ _ _ _ (by have:=zu HGE j hj;show j ≠ w.heap.size;omega)))
          have hs10 : (W9.setCell ⟨w.heap.size,k,none⟩ (.bool true)).heap.size = W9.heap.size:=by simp [World.setCell]
          have HS10:=hide hs10;clear hs10
          go_wp2_with (at_builtin;refine zu ?_)
          refine hide ?_;refine wpList_append_own _ rfl _ _ 94 rfl (w.heap.size + 1) 3 iT _ 1 8 Tryz.underlying94 ht ht0 ht1 ht2 rfl (by decide) _ t _ rfl (own_bel (zu HR10) (ba (bfl _ _) _)) _ 1 1 (natc k) rfl rfl (by first | exact news_cells _ _ rfl | exact news_cells _ _ (by simp [World.setCell])) (natc_one _) (by unfold maxLen;omega) (by omega) (by simp [World.setCell];omega) ?_;intro v' w1 hown' hgrow _;have R:=hide (own_app (c:=natc) (Below.alloc (B:=w.heap.size + 1) (bfl _ _) (by rw [zu HS10];omega) _) (by simp [World.setCell];omega) (zu HR10) hown' hgrow)
          have HV11:=hide ((zu HV10).below (zu R).2 (Nat.lt_succ_self _));have HD11:=hide ((zu HD10).trans ((zu R).2.mono (Nat.le_succ _)));clear hown' hgrow;go_wp2_with fail;go_roundw
          case rel => exact ⟨k + 1,_,st ++ [k],t + 1,by simp,h',by omega,zu HNL,by have:=zu HUP;have:=zu HUN;rw [List.length_append,List.length_singleton];omega,by rw [List.length_append,zu HSL];rfl,(zu R).1,zu HV11,zu HD11⟩
          case measure => simp only [intOf];omega
       ·have j1 : ¬ (k : Int) < (n : Int):=by omega
        have jz : decide ((k : Int) < (n : Int)) = false:=df j1;obtain rfl : k = n:=by omega
        have HWE:=hide (zu HLK).end_;clear hv;go_wp2_with fail
        go_roundg q0
        case measure => omega
        case rel => exact ⟨S,st,t,by rw [zu HUN];exact Nat.le_refl _,zu HSL,by omega,zu HWE,zu HR,zu HV,zu HD⟩
  ·have i1 : ¬ (i : Int) < (n : Int):=by omega
   have iz : decide ((i : Int) < (n : Int)) = false:=df i1;obtain rfl : i = n:=by omega
   clear hS hv hd;go_wp2_with fail;go_ret;exact ⟨ret_int (by rw [zu HPQ]),zu HD⟩
noncomputable def rg87 (id : Nat) : Go.Code:=match Tryz.f79.body with | some c => (regOfZ id c).getD .skip | none => .skip
theorem td5 {s1 s2 s5 s6 s7 s8 s9 s10 s11 s12 s13 s14 s15 s16 s17 s18 s19 s20 s21 s22 s23 s24 s25 s26 s27 s28 s29 s30 s31 s32 s33 s34 s35 s36 s37 s38 s39 s40 s41 s42 s43 s44 s45 s46 s47 s48 s49 s50 s51 s52 s53 s54 s55 s56 s57 s58 s59 s60 s61 : Value} {g go qq co ii p po nn cu gd od nd cd yb bm dd : Nat} {a0 a1 a2 : ByteArray} {a3 a4 a5 a6 a7 a8 a9 a10 a11 a12 a13 a14 : Int} {V : World} {K_ : Act → World → Prop}
  (HG0 : Hid (V.cell? ⟨g,0,none⟩ = some (.slice (some ⟨p,po,none⟩) nn cu))) (HG1 : Hid (V.cell? ⟨g,1,none⟩ = some (.slice (some ⟨gd,od,none⟩) nd cd))) (HBY : Hid (V.cell? ⟨go,ii * 8,none⟩ = some (.int .i64 (yb : Int)))) (HDD : Hid (V.cell? ⟨gd,od + bm,none⟩ = some (.int .i64 (dd : Int)))) (HF0 : Hid (V.cell? ⟨p,po + dd * 15,none⟩ = some (.string a0))) (HF1 : Hid (V.cell? ⟨p,po + dd * 15 + 1,none⟩ = some (.string a1))) (HF2 : Hid (V.cell? ⟨p,po + dd * 15 + 2,none⟩ = some (.string a2))) (HF3 : Hid (V.cell? ⟨p,po + dd * 15 + 3,none⟩ = some (.int .i64 (a3)))) (HF4 : Hid (V.cell? ⟨p,po + dd * 15 + 4,none⟩ = some (.int .i64 (a4)))) (HF5 : Hid (V.cell? ⟨p,po + dd * 15 + 5,none⟩ = some (.int .i64 (a5)))) (HF6 : Hid (V.cell? ⟨p,po + dd * 15 + 6,none⟩ = some (.int .i64 (a6)))) (HF7 : Hid (V.cell? ⟨p,po + dd * 15 + 7,none⟩ = some (.int .i64 (a7)))) (HF8 : Hid (V.cell? ⟨p,po + dd * 15 + 8,none⟩ = some (.int .i64 (a8)))) (HF9 : Hid (V.cell? ⟨p,po + dd * 15 + 9,none⟩ = some (.int .i64 (a9)))) (HF10 : Hid (V.cell? ⟨p,po + dd * 15 + 10,none⟩ = some (.int .i64 (a10)))) (HF11 : Hid (V.cell? ⟨p,po + dd * 15 + 11,none⟩ = some (.int .i64 (a11)))) (HF12 : Hid (V.cell? ⟨p,po + dd * 15 + 12,none⟩ = some (.int .i64 (a12)))) (HF13 : Hid (V.cell? ⟨p,po + dd * 15 + 13,none⟩ = some (.int .i64 (a13)))) (HF14 : Hid (V.cell? ⟨p,po + dd * 15 + 14,none⟩ = some (.int .i64 (a14))))
  (HX10 : Hid (ii < qq))
  (HW13 : Hid (IntKind.i64.wrap ((yb : Int) - 1) = (bm : Int)))
  (HX14 : Hid (bm < nd))
  (HX16 : Hid (dd < nn))
  (hQ : ∀ (n18 : Nat)  (W1 : World),Below V.heap.size V W1 → vb W1 n18 75 [.string a0,.string a1,.string a2,.int .i64 (a3),.int .i64 (a4),.int .i64 (a5),.int .i64 (a6),.int .i64 (a7),.int .i64 (a8),.int .i64 (a9),.int .i64 (a10),.int .i64 (a11),.int .i64 (a12),.int .i64 (a13),.int .i64 (a14)] → V.heap.size ≤ n18 → K_ { tmps:=#[.pointer (some ⟨g,0,none⟩),s1,s2,.slice (some ⟨go,0,none⟩) qq co,.int .i64 (ii : Int),.pointer (some ⟨n18,0,none⟩),s6,s7,s8,s9,s10,s11,s12,s13,.pointer (some ⟨g,0,none⟩),.pointer (some ⟨g,0,none⟩),.pointer (some ⟨g,0,none⟩),.slice (some ⟨p,po,none⟩) nn cu,.pointer (some ⟨g,0,none⟩),.pointer (some ⟨g,0,none⟩),.pointer (some ⟨g,1,none⟩),.slice (some ⟨gd,od,none⟩) nd cd,.slice (some ⟨go,0,none⟩) qq co,.int .i64 (ii : Int),.pointer (some ⟨go,ii * 8,none⟩),.pointer (some ⟨go,ii * 8,none⟩),.int .i64 (yb : Int),.int .i64 (bm : Int),.pointer (some ⟨gd,od + bm,none⟩),.int .i64 (dd : Int),.pointer (some ⟨p,po + dd * 15,none⟩),.agg #[.string a0,.string a1,.string a2,.int .i64 (a3),.int .i64 (a4),.int .i64 (a5),.int .i64 (a6),.int .i64 (a7),.int .i64 (a8),.int .i64 (a9),.int .i64 (a10),.int .i64 (a11),.int .i64 (a12),.int .i64 (a13),.int .i64 (a14)],s32,s33,s34,s35,s36,s37,s38,s39,s40,s41,s42,s43,s44,s45,s46,s47,s48,s49,s50,s51,s52,s53,s54,s55,s56,s57,s58,s59,s60,s61],defers:=[] } W1) :
  Go.Code.wp Tryz.prog (rg87 5) (Only K_) { tmps:=#[.pointer (some ⟨g,0,none⟩),s1,s2,.slice (some ⟨go,0,none⟩) qq co,.int .i64 (ii : Int),s5,s6,s7,s8,s9,s10,s11,s12,s13,s14,s15,s16,s17,s18,s19,s20,s21,s22,s23,s24,s25,s26,s27,s28,s29,s30,s31,s32,s33,s34,s35,s36,s37,s38,s39,s40,s41,s42,s43,s44,s45,s46,s47,s48,s49,s50,s51,s52,s53,s54,s55,s56,s57,s58,s59,s60,s61],defers:=[] } V:=by
 have HQ:=hide hQ;clear hQ
 conv => arg 2;whnf
 refine wp_region_inv2 (fun Lb A W => ∃ (u0 u1 u2 u3 u4 u5 u6 u7 u8 u9 u10 u11 u12 u13 u14 u15 u16 u17 u18 u19 : Bool) (n18 : Nat),Lb = #[u0,u1,u2,u3,u4,u5,u6,u7,u8,u9,u10,u11,u12,u13,u14,u15,u16,u17,u18,u19] ∧ A = ({ tmps:=#[.pointer (some ⟨g,0,none⟩),s1,s2,.slice (some ⟨go,0,none⟩) qq co,.int .i64 (ii : Int),(bif u18 then .pointer (some ⟨n18,0,none⟩) else s5),s6,s7,s8,s9,s10,s11,s12,s13,(bif u0 then .pointer (some ⟨g,0,none⟩) else s14),(bif u1 then .pointer (some ⟨g,0,none⟩) else s15),(bif u2 then .pointer (some ⟨g,0,none⟩) else s16),(bif u3 then .slice (some ⟨p,po,none⟩) nn cu else s17),(bif u4 then .pointer (some ⟨g,0,none⟩) else s18),(bif u5 then .pointer (some ⟨g,0,none⟩) else s19),(bif u6 then .pointer (some ⟨g,1,none⟩) else s20),(bif u7 then .slice (some ⟨gd,od,none⟩) nd cd else s21),(bif u8 then .slice (some ⟨go,0,none⟩) qq co else s22),(bif u9 then .int .i64 (ii : Int) else s23),(bif u10 then .pointer (some ⟨go,ii * 8,none⟩) else s24),(bif u11 then .pointer (some ⟨go,ii * 8,none⟩) else s25),(bif u12 then .int .i64 (yb : Int) else s26),(bif u13 then .int .i64 (bm : Int) else s27),(bif u14 then .pointer (some ⟨gd,od + bm,none⟩) else s28),(bif u15 then .int .i64 (dd : Int) else s29),(bif u16 then .pointer (some ⟨p,po + dd * 15,none⟩) else s30),(bif u17 then .agg #[.string a0,.string a1,.string a2,.int .i64 (a3),.int .i64 (a4),.int .i64 (a5),.int .i64 (a6),.int .i64 (a7),.int .i64 (a8),.int .i64 (a9),.int .i64 (a10),.int .i64 (a11),.int .i64 (a12),.int .i64 (a13),.int .i64 (a14)] else s31),s32,s33,s34,s35,s36,s37,s38,s39,s40,s41,s42,s43,s44,s45,s46,s47,s48,s49,s50,s51,s52,s53,s54,s55,s56,s57,s58,s59,s60,s61],defers:=[] } : Act) ∧ Below V.heap.size V W ∧ (u18 = true → vb W n18 75 (bif u19 then [.string a0,.string a1,.string a2,.int .i64 (a3),.int .i64 (a4),.int .i64 (a5),.int .i64 (a6),.int .i64 (a7),.int .i64 (a8),.int .i64 (a9),.int .i64 (a10),.int .i64 (a11),.int .i64 (a12),.int .i64 (a13),.int .i64 (a14)] else [.string ⟨#[]⟩,.string ⟨#[]⟩,.string ⟨#[]⟩,.int .i64 (0),.int .i64 (0),.int .i64 (0),.int .i64 (0),.int .i64 (0),.int .i64 (0),.int .i64 (0),.int .i64 (0),.int .i64 (0),.int .i64 (0),.int .i64 (0),.int .i64 (0)]) ∧ V.heap.size ≤ n18) ∧ (u19 = true → u0 = true ∧ u1 = true ∧ u2 = true ∧ u3 = true ∧ u4 = true ∧ u5 = true ∧ u6 = true ∧ u7 = true ∧ u8 = true ∧ u9 = true ∧ u10 = true ∧ u11 = true ∧ u12 = true ∧ u13 = true ∧ u14 = true ∧ u15 = true ∧ u16 = true ∧ u17 = true ∧ u18 = true)) (by kernel_rfl) (by kernel_rfl) ?h0 ?hstep ?hend
 case h0 =>
  exact ⟨false,false,false,false,false,false,false,false,false,false,false,false,false,false,false,false,false,false,false,false,0,rfl,rfl,Below.drew (bfl _ _),zf,zf⟩
 case hstep =>
  intro Lb A W hI;obtain ⟨u0,u1,u2,u3,u4,hI⟩:=hI;obtain ⟨u5,u6,u7,u8,u9,hI⟩:=hI;obtain ⟨u10,u11,u12,u13,u14,hI⟩:=hI;obtain ⟨u15,u16,u17,u18,u19,hI⟩:=hI;obtain ⟨n18,hI⟩:=hI;obtain ⟨hLb,hI⟩:=hI;obtain ⟨hA,hI⟩:=hI;obtain ⟨kB,hI⟩:=hI;obtain ⟨k18,hI⟩:=hI;have kF:=hI;clear hI;subst hLb;subst hA;replace kB:=hide kB;replace k18:=hide k18;replace kF:=hide kF;refine ⟨?_,?_,?_,?_,?_,?_,?_,?_,?_,?_,?_,?_,?_,?_,?_,?_,?_,?_,?_,?_,trivial⟩
  ·intro h0 hd K hK
   have z : u0 = false:=h0;have z19_ : u19 = false:=znb fun hu => z.symm.trans ((zu kF hu).1)
   subst z19_;subst z;clear h0 hd;rw [if_pos (by rfl)];go_simp;exact zu hK _ _ ⟨true,u1,u2,u3,u4,u5,u6,u7,u8,u9,u10,u11,u12,u13,u14,u15,u16,u17,u18,false,n18,rfl,rfl,zu kB,zu k18,zf⟩
  ·intro h0 hd K hK
   have z : u1 = false:=h0;have z19_ : u19 = false:=znb fun hu => z.symm.trans ((zu kF hu).2.1)
   obtain ⟨rfl⟩ : u0 = true:=by simp [Region.binds] at hd;simp [hd]
   subst z19_;subst z;clear h0 hd;rw [if_pos (by rfl)];go_simp;exact zu hK _ _ ⟨true,true,u2,u3,u4,u5,u6,u7,u8,u9,u10,u11,u12,u13,u14,u15,u16,u17,u18,false,n18,rfl,rfl,zu kB,zu k18,zf⟩
  ·intro h0 hd K hK
   have z : u2 = false:=h0;have z19_ : u19 = false:=znb fun hu => z.symm.trans ((zu kF hu).2.2.1)
   obtain ⟨rfl⟩ : u1 = true:=by simp [Region.binds] at hd;simp [hd]
   subst z19_;subst z;clear h0 hd;rw [if_pos (by rfl)];go_simp;exact zu hK _ _ ⟨u0,true,true,u3,u4,u5,u6,u7,u8,u9,u10,u11,u12,u13,u14,u15,u16,u17,u18,false,n18,rfl,rfl,zu kB,zu k18,zf⟩
  ·intro h0 hd K hK
   have z : u3 = false:=h0;have z19_ : u19 = false:=znb fun hu => z.symm.trans ((zu kF hu).2.2.2.1)
   obtain ⟨rfl⟩ : u2 = true:=by simp [Region.binds] at hd;simp [hd]
   subst z19_;subst z;clear h0 hd;rw [if_pos (by rfl)];have c0:=keep1 (zu kB) (zu HG0);go_simp;exact zu hK _ _ ⟨u0,u1,true,true,u4,u5,u6,u7,u8,u9,u10,u11,u12,u13,u14,u15,u16,u17,u18,false,n18,rfl,rfl,zu kB,zu k18,zf⟩
  ·intro h0 hd K hK
   have z : u4 = false:=h0;have z19_ : u19 = false:=znb fun hu => z.symm.trans ((zu kF hu).2.2.2.2.1)
   subst z19_;subst z;clear h0 hd;rw [if_pos (by rfl)];go_simp;exact zu hK _ _ ⟨u0,u1,u2,u3,true,u5,u6,u7,u8,u9,u10,u11,u12,u13,u14,u15,u16,u17,u18,false,n18,rfl,rfl,zu kB,zu k18,zf⟩
  ·intro h0 hd K hK
   have z : u5 = false:=h0;have z19_ : u19 = false:=znb fun hu => z.symm.trans ((zu kF hu).2.2.2.2.2.1)
   obtain ⟨rfl⟩ : u4 = true:=by simp [Region.binds] at hd;simp [hd]
   subst z19_;subst z;clear h0 hd;rw [if_pos (by rfl)];go_simp;exact zu hK _ _ ⟨u0,u1,u2,u3,true,true,u6,u7,u8,u9,u10,u11,u12,u13,u14,u15,u16,u17,u18,false,n18,rfl,rfl,zu kB,zu k18,zf⟩
  ·intro h0 hd K hK
   have z : u6 = false:=h0;have z19_ : u19 = false:=znb fun hu => z.symm.trans ((zu kF hu).2.2.2.2.2.2.1)
   obtain ⟨rfl⟩ : u5 = true:=by simp [Region.binds] at hd;simp [hd]
   subst z19_;subst z;clear h0 hd;rw [if_pos (by rfl)];go_simp;exact zu hK _ _ ⟨u0,u1,u2,u3,u4,true,true,u7,u8,u9,u10,u11,u12,u13,u14,u15,u16,u17,u18,false,n18,rfl,rfl,zu kB,zu k18,zf⟩
  ·intro h0 hd K hK
   have z : u7 = false:=h0;have z19_ : u19 = false:=znb fun hu => z.symm.trans ((zu kF hu).2.2.2.2.2.2.2.1)
   obtain ⟨rfl⟩ : u6 = true:=by simp [Region.binds] at hd;simp [hd]
   subst z19_;subst z;clear h0 hd;rw [if_pos (by rfl)];have c0:=keep1 (zu kB) (zu HG1);go_simp;exact zu hK _ _ ⟨u0,u1,u2,u3,u4,u5,true,true,u8,u9,u10,u11,u12,u13,u14,u15,u16,u17,u18,false,n18,rfl,rfl,zu kB,zu k18,zf⟩
  ·intro h0 hd K hK
   have z : u8 = false:=h0;have z19_ : u19 = false:=znb fun hu => z.symm.trans ((zu kF hu).2.2.2.2.2.2.2.2.1)
   subst z19_;subst z;clear h0 hd;rw [if_pos (by rfl)];go_simp;exact zu hK _ _ ⟨u0,u1,u2,u3,u4,u5,u6,u7,true,u9,u10,u11,u12,u13,u14,u15,u16,u17,u18,false,n18,rfl,rfl,zu kB,zu k18,zf⟩
  ·intro h0 hd K hK
   have z : u9 = false:=h0;have z19_ : u19 = false:=znb fun hu => z.symm.trans ((zu kF hu).2.2.2.2.2.2.2.2.2.1)
   subst z19_;subst z;clear h0 hd;rw [if_pos (by rfl)];go_simp;exact zu hK _ _ ⟨u0,u1,u2,u3,u4,u5,u6,u7,u8,true,u10,u11,u12,u13,u14,u15,u16,u17,u18,false,n18,rfl,rfl,zu kB,zu k18,zf⟩
  ·intro h0 hd K hK
   have z : u10 = false:=h0;have z19_ : u19 = false:=znb fun hu => z.symm.trans ((zu kF hu).2.2.2.2.2.2.2.2.2.2.1)
   obtain ⟨rfl,rfl⟩ : u8 = true ∧ u9 = true:=by simp [Region.binds] at hd;simp [hd]
   subst z19_;subst z;clear h0 hd;rw [if_pos (by rfl)];have q1 : ii < qq:=zu HX10;have q2 : (ii : Int) < (qq : Int):=by omega
   go_simp;exact zu hK _ _ ⟨u0,u1,u2,u3,u4,u5,u6,u7,true,true,true,u11,u12,u13,u14,u15,u16,u17,u18,false,n18,rfl,rfl,zu kB,zu k18,zf⟩
  ·intro h0 hd K hK
   have z : u11 = false:=h0;have z19_ : u19 = false:=znb fun hu => z.symm.trans ((zu kF hu).2.2.2.2.2.2.2.2.2.2.2.1)
   obtain ⟨rfl⟩ : u10 = true:=by simp [Region.binds] at hd;simp [hd]
   subst z19_;subst z;clear h0 hd;rw [if_pos (by rfl)];go_simp;exact zu hK _ _ ⟨u0,u1,u2,u3,u4,u5,u6,u7,u8,u9,true,true,u12,u13,u14,u15,u16,u17,u18,false,n18,rfl,rfl,zu kB,zu k18,zf⟩
  ·intro h0 hd K hK
   have z : u12 = false:=h0;have z19_ : u19 = false:=znb fun hu => z.symm.trans ((zu kF hu).2.2.2.2.2.2.2.2.2.2.2.2.1)
   obtain ⟨rfl⟩ : u11 = true:=by simp [Region.binds] at hd;simp [hd]
   subst z19_;subst z;clear h0 hd;rw [if_pos (by rfl)];have c0:=keep1 (zu kB) (zu HBY);go_simp;exact zu hK _ _ ⟨u0,u1,u2,u3,u4,u5,u6,u7,u8,u9,u10,true,true,u13,u14,u15,u16,u17,u18,false,n18,rfl,rfl,zu kB,zu k18,zf⟩
  ·intro h0 hd K hK
   have z : u13 = false:=h0;have z19_ : u19 = false:=znb fun hu => z.symm.trans ((zu kF hu).2.2.2.2.2.2.2.2.2.2.2.2.2.1)
   obtain ⟨rfl⟩ : u12 = true:=by simp [Region.binds] at hd;simp [hd]
   subst z19_;subst z;clear h0 hd;rw [if_pos (by rfl)];have wq:=zu HW13;go_simp;exact zu hK _ _ ⟨u0,u1,u2,u3,u4,u5,u6,u7,u8,u9,u10,u11,true,true,u14,u15,u16,u17,u18,false,n18,rfl,rfl,zu kB,zu k18,zf⟩
  ·intro h0 hd K hK
   have z : u14 = false:=h0;have z19_ : u19 = false:=znb fun hu => z.symm.trans ((zu kF hu).2.2.2.2.2.2.2.2.2.2.2.2.2.2.1)
   obtain ⟨rfl,rfl⟩ : u7 = true ∧ u13 = true:=by simp [Region.binds] at hd;simp [hd]
   subst z19_;subst z;clear h0 hd;rw [if_pos (by rfl)];have q1 : bm < nd:=zu HX14;have q2 : (bm : Int) < (nd : Int):=by omega
   go_simp;exact zu hK _ _ ⟨u0,u1,u2,u3,u4,u5,u6,true,u8,u9,u10,u11,u12,true,true,u15,u16,u17,u18,false,n18,rfl,rfl,zu kB,zu k18,zf⟩
  ·intro h0 hd K hK
   have z : u15 = false:=h0;have z19_ : u19 = false:=znb fun hu => z.symm.trans ((zu kF hu).2.2.2.2.2.2.2.2.2.2.2.2.2.2.2.1)
   obtain ⟨rfl⟩ : u14 = true:=by simp [Region.binds] at hd;simp [hd]
   subst z19_;subst z;clear h0 hd;rw [if_pos (by rfl)];have c0:=keep1 (zu kB) (zu HDD);go_simp;exact zu hK _ _ ⟨u0,u1,u2,u3,u4,u5,u6,u7,u8,u9,u10,u11,u12,u13,true,true,u16,u17,u18,false,n18,rfl,rfl,zu kB,zu k18,zf⟩
  ·intro h0 hd K hK
   have z : u16 = false:=h0;have z19_ : u19 = false:=znb fun hu => z.symm.trans ((zu kF hu).2.2.2.2.2.2.2.2.2.2.2.2.2.2.2.2.1)
   obtain ⟨rfl,rfl⟩ : u3 = true ∧ u15 = true:=by simp [Region.binds] at hd;simp [hd]
   subst z19_;subst z;clear h0 hd;rw [if_pos (by rfl)];have q1 : dd < nn:=zu HX16;have q2 : (dd : Int) < (nn : Int):=by omega
   go_simp;exact zu hK _ _ ⟨u0,u1,u2,true,u4,u5,u6,u7,u8,u9,u10,u11,u12,u13,u14,true,true,u17,u18,false,n18,rfl,rfl,zu kB,zu k18,zf⟩
  ·intro h0 hd K hK
   have z : u17 = false:=h0;have z19_ : u19 = false:=znb fun hu => z.symm.trans ((zu kF hu).2.2.2.2.2.2.2.2.2.2.2.2.2.2.2.2.2.1)
   obtain ⟨rfl⟩ : u16 = true:=by simp [Region.binds] at hd;simp [hd]
   subst z19_;subst z;clear h0 hd;rw [if_pos (by rfl)];have c0:=keep1 (zu kB) (zu HF0);have c1:=keep1 (zu kB) (zu HF1);have c2:=keep1 (zu kB) (zu HF2);have c3:=keep1 (zu kB) (zu HF3);have c4:=keep1 (zu kB) (zu HF4);have c5:=keep1 (zu kB) (zu HF5);have c6:=keep1 (zu kB) (zu HF6);have c7:=keep1 (zu kB) (zu HF7);have c8:=keep1 (zu kB) (zu HF8);have c9:=keep1 (zu kB) (zu HF9);have c10:=keep1 (zu kB) (zu HF10);have c11:=keep1 (zu kB) (zu HF11);have c12:=keep1 (zu kB) (zu HF12);have c13:=keep1 (zu kB) (zu HF13);have c14:=keep1 (zu kB) (zu HF14);go_simp
   exact zu hK _ _ ⟨u0,u1,u2,u3,u4,u5,u6,u7,u8,u9,u10,u11,u12,u13,u14,u15,true,true,u18,false,n18,rfl,rfl,zu kB,zu k18,zf⟩
  ·intro h0 hd K hK
   have z : u18 = false:=h0;have z19_ : u19 = false:=znb fun hu => z.symm.trans ((zu kF hu).2.2.2.2.2.2.2.2.2.2.2.2.2.2.2.2.2.2)
   subst z19_;subst z;clear h0 hd;rw [if_pos (by rfl)];go_simp;exact zu hK _ _ ⟨u0,u1,u2,u3,u4,u5,u6,u7,u8,u9,u10,u11,u12,u13,u14,u15,u16,u17,true,false,W.heap.size,rfl,rfl,ba (zu kB) _,(fun _ => ⟨vb_new W 75 _ _ rfl,(zu kB).size⟩),zf⟩
  ·intro h0 hd K hK
   have z : u19 = false:=h0
   have zd0 : u0 = true ∧ u1 = true ∧ u2 = true ∧ u3 = true ∧ u4 = true ∧ u5 = true ∧ u6 = true ∧ u7 = true ∧ u8 = true ∧ u9 = true ∧ u10 = true ∧ u11 = true ∧ u12 = true ∧ u13 = true ∧ u14 = true ∧ u15 = true ∧ u16 = true ∧ u17 = true ∧ u18 = true:=by
    simp [Region.binds] at hd;simp [hd]
   have zd : u0 = true ∧ u1 = true ∧ u2 = true ∧ u3 = true ∧ u4 = true ∧ u5 = true ∧ u6 = true ∧ u7 = true ∧ u8 = true ∧ u9 = true ∧ u10 = true ∧ u11 = true ∧ u12 = true ∧ u13 = true ∧ u14 = true ∧ u15 = true ∧ u16 = true ∧ u17 = true ∧ u18 = true:=⟨zd0.1,zd0.2.1,zd0.2.2.1,zd0.2.2.2.1,zd0.2.2.2.2.1,zd0.2.2.2.2.2.1,zd0.2.2.2.2.2.2.1,zd0.2.2.2.2.2.2.2.1,zd0.2.2.2.2.2.2.2.2.1,zd0.2.2.2.2.2.2.2.2.2.1,zd0.2.2.2.2.2.2.2.2.2.2.1,zd0.2.2.2.2.2.2.2.2.2.2.2.1,zd0.2.2.2.2.2.2.2.2.2.2.2.2.1,zd0.2.2.2.2.2.2.2.2.2.2.2.2.2.1,zd0.2.2.2.2.2.2.2.2.2.2.2.2.2.2.1,zd0.2.2.2.2.2.2.2.2.2.2.2.2.2.2.2.1,zd0.2.2.2.2.2.2.2.2.2.2.2.2.2.2.2.2.1,zd0.2.2.2.2.2.2.2.2.2.2.2.2.2.2.2.2.2.1,zd0.2.2.2.2.2.2.2.2.2.2.2.2.2.2.2.2.2.2⟩
   obtain ⟨rfl,rfl,rfl,rfl,rfl,rfl,rfl,rfl,rfl,rfl,rfl,rfl,rfl,rfl,rfl,rfl,rfl,rfl,rfl⟩:=zd;subst z;clear h0 hd;rw [if_pos (by rfl)];have v1:=(zu k18 rfl).1;have g9:=(zu k18 rfl).2;have fz:=v1.frozen;have q0:=v1.cell (m:=0) rfl;have q1:=v1.cell (m:=1) rfl;have q2:=v1.cell (m:=2) rfl;have q3:=v1.cell (m:=3) rfl;have q4:=v1.cell (m:=4) rfl;have q5:=v1.cell (m:=5) rfl;have q6:=v1.cell (m:=6) rfl;have q7:=v1.cell (m:=7) rfl;have q8:=v1.cell (m:=8) rfl;have q9:=v1.cell (m:=9) rfl;have q10:=v1.cell (m:=10) rfl
   have q11:=v1.cell (m:=11) rfl;have q12:=v1.cell (m:=12) rfl;have q13:=v1.cell (m:=13) rfl;have q14:=v1.cell (m:=14) rfl;have HV1:=hide v1;clear v1;go_simp
   exact zu hK _ _ ⟨true,true,true,true,true,true,true,true,true,true,true,true,true,true,true,true,true,true,true,true,n18,rfl,rfl,(((((((((((((((((((((((((((((((zu kB)).setCell (p:=⟨n18,0,none⟩) g9 _)).setCell (p:=⟨n18,1,none⟩) g9 _)).setCell (p:=⟨n18,2,none⟩) g9 _)).setCell (p:=⟨n18,3,none⟩) g9 _)).setCell (p:=⟨n18,4,none⟩) g9 _)).setCell (p:=⟨n18,5,none⟩) g9 _)).setCell (p:=⟨n18,6,none⟩) g9 _)).setCell (p:=⟨n18,7,none⟩) g9 _)).setCell (p:=⟨n18,8,none⟩) g9 _)).setCell (p:=⟨n18,9,none⟩) g9 _)).setCell (p:=⟨n18,10,none⟩) g9 _)).setCell (p:=⟨n18,11,none⟩) g9 _)).setCell (p:=⟨n18,12,none⟩) g9 _)).setCell (p:=⟨n18,13,none⟩) g9 _)).setCell (p:=⟨n18,14,none⟩) g9 _),(fun _ => ⟨((((((((((((((((zu HV1).set 0 _).set 1 _).set 2 _).set 3 _).set 4 _).set 5 _).set 6 _).set 7 _).set 8 _).set 9 _).set 10 _).set 11 _).set 12 _).set 13 _).set 14 _),g9⟩),(fun _ => ⟨rfl,rfl,rfl,rfl,rfl,rfl,rfl,rfl,rfl,rfl,rfl,rfl,rfl,rfl,rfl,rfl,rfl,rfl,rfl⟩)⟩
 case hend =>
  intro Lb A W hI;obtain ⟨u0,u1,u2,u3,u4,hI⟩:=hI;obtain ⟨u5,u6,u7,u8,u9,hI⟩:=hI;obtain ⟨u10,u11,u12,u13,u14,hI⟩:=hI;obtain ⟨u15,u16,u17,u18,u19,hI⟩:=hI;obtain ⟨n18,hI⟩:=hI;obtain ⟨hLb,hI⟩:=hI;obtain ⟨hA,hI⟩:=hI;obtain ⟨kB,hI⟩:=hI;obtain ⟨k18,hI⟩:=hI;have kF:=hI;clear hI;subst hLb;subst hA;intro hL
  have hl : u0 = true ∧ u1 = true ∧ u2 = true ∧ u3 = true ∧ u4 = true ∧ u5 = true ∧ u6 = true ∧ u7 = true ∧ u8 = true ∧ u9 = true ∧ u10 = true ∧ u11 = true ∧ u12 = true ∧ u13 = true ∧ u14 = true ∧ u15 = true ∧ u16 = true ∧ u17 = true ∧ u18 = true ∧ u19 = true:=by
   have h2:=congrArg Array.toList hL
   simpa [List.replicate] using h2
  obtain ⟨rfl,rfl,rfl,rfl,rfl,rfl,rfl,rfl,rfl,rfl,rfl,rfl,rfl,rfl,rfl,rfl,rfl,rfl,rfl,rfl⟩:=hl;exact zu HQ n18  W kB (k18 rfl).1 (k18 rfl).2
end Go.Proofs.YtkiplmabjeadgaaGreat
