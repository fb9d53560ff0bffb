/- A section: its rows of signs, and what Section answers. -/
import Derived.Test.YtkiplmabjeadgaaGreatBuMR
import Derived.Test.YtkiplmabjeadgaaGreatBdS22R
import Derived.Test.YtkiplmabjeadgaaGreatFtMathR
namespace Go.Proofs.YtkiplmabjeadgaaGreat
set_option maxRecDepth 100000
set_option maxHeartbeats 16000000
open Go.ChangeShapes Go.WideShapes Go.ChangeAt Go.RowKit
set_option linter.unusedVariables false
set_option linter.unusedSimpArgs false
inductive Wk where
 | free (t : Nat) (b : Bx)
 | row (t : Nat) (b : Bx) (n : Nat) (x y z : Int)
def Wk.t : Wk → Nat
 | .free t _ => t
 | .row t _ _ _ _ _ => t
def Wk.v : Wk → Value
 | .free t b => .iface t (bxv b)
 | .row t b n x y z => .iface 243 (.agg #[.iface t (bxv b),.int .i64 (n : Int),.int .i64 x,.int .i64 y,.int .i64 z])
def Wk.bx : Wk → List Bx
 | .free _ b => [b]
 | .row _ b n x y z => wbN b n x y z
def Wk.ok : Wk → Prop
 | .free t b => (t = 240 ∨ t = 241) ∧ bxS 100000 b
 | .row t b n x y z => (t = 240 ∨ t = 241) ∧ bxS 100000 b ∧ n ≤ 8 ∧ (-24 ≤ x ∧ x ≤ 24) ∧ (-24 ≤ y ∧ y ≤ 24) ∧ (-24 ≤ z ∧ z ≤ 24)
theorem Wk.one (k : Wk) : k.v.oneCell' = true:=by cases k <;> rfl
theorem Wk.boxes {k : Wk} (h : k.ok) : ∃ t u f,k.v = .iface t u ∧ (f = 247 ∨ f = 249 ∨ f = 251) ∧ (∀ W : World,(method 410 t u "loop.example/g00056/impl.boxes").run Tryz.prog W = .ok (f,u) W) ∧ ∀ w,Calls Tryz.prog f #[u] w (Bxs k.bx w):=by
 cases k with
 | free t b =>
  obtain ⟨rfl | rfl,hb⟩:=h
  ·exact ⟨240,bxv b,247,rfl,.inl rfl,me247 _,fun w => (bBoxes240_any b w).mono fun e w' h => one_bxs h⟩
  ·exact ⟨241,bxv b,249,rfl,.inr (.inl rfl),me249 _,fun w => (bBoxes241_any b w).mono fun e w' h => one_bxs h⟩
 | row t b n x y z =>
  obtain ⟨rfl | rfl,hb,hn,hx,hy,hz⟩:=h
  ·exact ⟨243,_,251,rfl,.inr (.inr rfl),me251 _,fun w => rowBoxes240_any b n x y z w hn hb hx hy hz⟩
  ·exact ⟨243,_,251,rfl,.inr (.inr rfl),me251 _,fun w => rowBoxes241_any b n x y z w hn hb hx hy hz⟩
theorem fillsB_any (b : Bx) (w : World) : Calls Tryz.prog 157 #[.iface 240 (bxv b)] w fun e w' => e = .returned (.bool true) ∧ Below w.heap.size w w':=by
 have h1:=fi240;obtain ⟨b0,b1,b2,b3,b4,b5⟩:=b;unfold bxv;simp only;go_enter Tryz.func157,Tryz.ntmps157;go_wp2_with fail;go_ret;refine ⟨rfl,?_⟩
 repeat (first | exact bfl _ _ | refine Below.setCell ?_ (Nat.le_refl _) _ | refine Below.setCell ?_ (by simp) _ | refine ba ?_ _)
theorem fillsP_any (b : Bx) (w : World) : Calls Tryz.prog 157 #[.iface 241 (bxv b)] w fun e w' => e = .returned (.bool false) ∧ Below w.heap.size w w':=by
 have h1:=fi241;have h2:=fr241
 obtain ⟨bv,hv⟩ : ∃ q,bxv b = q:=⟨_,rfl⟩
 rw [hv];go_enter Tryz.func157,Tryz.ntmps157;go_wp2_with fail;go_ret;refine ⟨rfl,?_⟩
 repeat (first | exact bfl _ _ | refine Below.setCell ?_ (Nat.le_refl _) _ | refine Below.setCell ?_ (by simp) _ | refine ba ?_ _)
theorem fillsR_any (t : Nat) (r : Bool) (b : Bx) (n : Nat) (x y z : Int) (w : World) (h : ∀ w,Calls Tryz.prog 157 #[.iface t (bxv b)] w fun e w' => e = .returned (.bool r) ∧ Below w.heap.size w w') :
  Calls Tryz.prog 157 #[.iface 243 (.agg #[.iface t (bxv b),.int .i64 (n : Int),.int .i64 x,.int .i64 y,.int .i64 z])] w fun e w' => e = .returned (.bool r) ∧ Below w.heap.size w w':=by
 have h1:=fi243;have h2:=fr243;have HF:=hide h;clear h
 obtain ⟨bv,hv⟩ : ∃ q,bxv b = q:=⟨_,rfl⟩
 rw [hv] at HF ⊢;go_enter Tryz.func157,Tryz.ntmps157;go_wp2_with fail;refine (zu HF _).mono ?_;rintro e W ⟨rfl,hb⟩;have HB:=hide hb;clear hb;go_wp2_with fail;go_ret;refine ⟨rfl,bc ?_ (zu HB)⟩
 repeat (first | exact bfl _ _ | refine Below.setCell ?_ (Nat.le_refl _) _ | refine Below.setCell ?_ (by simp) _ | refine ba ?_ _)
theorem fills_any (k : Wk) (hk : k.ok) (w : World) : Calls Tryz.prog 157 #[k.v] w fun e w' => e = .returned (.bool (k.t == 240)) ∧ Below w.heap.size w w':=by
 cases k with
 | free t b =>
  obtain ⟨rfl | rfl,hb⟩:=hk
  ·exact fillsB_any b w
  ·exact fillsP_any b w
 | row t b n x y z =>
  obtain ⟨rfl | rfl,_⟩:=hk
  ·exact fillsR_any 240 true b n x y z w fun w => fillsB_any b w
  ·exact fillsR_any 241 false b n x y z w fun w => fillsP_any b w
theorem own_stAt {w : World} {B k : Nat} {g c : Nat} {l : List ByteArray} (h : w.ownsRow B 9 1 (.slice (some ⟨g,0,none⟩) k c) k (strs l)) : StAt w (some ⟨g,0,none⟩) l:=by
 intro h0;obtain ⟨g',c',e,hB,hlt,_⟩:=own_sm h (by simp)
 cases e
 exact ⟨g,0,rfl,hlt,fun i s hi => by rw [Nat.zero_add];exact own_cells h (strs_at hi)⟩
theorem foldl_ins_len (L : List ByteArray) : ∀ acc,(L.foldl ins acc).length ≤ acc.length + L.length:=by
 induction L with
 | nil => intro acc;exact Nat.le_refl _
 | cons a L ih =>
  intro acc;have h1:=ih (ins acc a)
  have h2 : (ins acc a).length ≤ acc.length + 1:=by
   unfold ins
   split
   ·omega
   ·simp;omega
  simp only [List.foldl_cons,List.length_cons];omega
theorem ins_yes {A : List ByteArray} {p : ByteArray} (h : hasT A p = true) : ins A p = A:=by unfold ins;rw [if_pos h]
theorem ins_no {A : List ByteArray} {p : ByteArray} (h : hasT A p = false) : ins A p = A.take (psn A p) ++ p :: A.drop (psn A p):=by unfold ins;rw [if_neg (by rw [h];simp)]
theorem tail_ad1 (q ck k : Nat) (L : List Value) (hk : k ≤ L.length) (hc : L.length ≤ ck) : ∃ ad : Addr,(if ck = k then .some (⟨q,0,none⟩ : Addr) else .some ⟨q,k,none⟩) = (.some ad : Option Addr) ∧
  ∀ (W : World),(∀ j x,L[j]? = some x → W.cell? ⟨q,j,none⟩ = some x) → ∀ (j : Nat) (u : Value),(L.drop k)[j]? = .some u → W.cell? (ad.add j) = .some u:=by
 by_cases h : ck = k
 ·refine ⟨⟨q,0,none⟩,if_pos h,fun W hW j u hj => ?_⟩
  rw [List.drop_eq_nil_of_le (by omega)] at hj
  cases hj
 ·refine ⟨⟨q,k,none⟩,if_neg h,fun W hW j u hj => ?_⟩
  rw [List.getElem?_drop] at hj;rw [add_none];exact hW _ _ hj
theorem sortM_any (u : Option Addr) (n cu : Nat) (L : List ByteArray) (w : World) (hl : L.length = n) (hn : n ≤ 1048576) (hu : StAt w u L) :
  Calls Tryz.prog 80 #[.slice u n cu] w fun e w' => ∃ v,e = .returned v ∧ SRow w' w.heap.size v (srt L) ∧ Below w.heap.size w w':=by
 obtain ⟨iT,ht,hx0,hx1,hx2⟩:=info_parts info9;have HU:=hide hu;have HL:=hide hl;clear hu hl;go_enter Tryz.func80,Tryz.ntmps80;go_wp2_with fail
 go_loopw [3,4] (fun v s W => ∃ (i g c m : Nat),s = .int .i64 (i : Int) ∧ i ≤ n ∧ v = .slice (some ⟨g,0,none⟩) m c ∧ m ≤ i ∧ W.ownsRow w.heap.size 9 1 (.slice (some ⟨g,0,none⟩) m c) m (strs ((L.take i).foldl ins [])) ∧ Below w.heap.size w W) (fun _ s _ => n - (intOf s).toNat)
 case atStart => exact ⟨0,_,_,0,rfl,by omega,rfl,Nat.le_refl _,own_made _ 9 _ 1 (Nat.le_refl _) _ rfl,ba (bfl _ _) _⟩
 case round =>
  obtain ⟨i,g,c,m,rfl,hi,rfl,hle,hrow,hw⟩:=hrel;have HRW:=hide hrow;have HW:=hide hw;have hszw:=hw.size;obtain ⟨_,_,hvg,hg1,hg2,hc1,hc2⟩:=own_sm hrow (by simp)
  cases hvg
  have hmA : ((L.take i).foldl ins []).length = m:=by have:=hrow.1;rw [strs_len] at this;omega
  have HMA:=hide hmA;have HST:=hide (own_stAt hrow);clear hrow hw hmA
  by_cases h : i < n
  ·have iz : decide ((i : Int) < (n : Int)) = true:=dt (by omega)
   have i1 : (i : Int) < (n : Int):=by omega
   have i0 : (0 : Int) ≤ (i : Int):=by omega
   obtain ⟨p,hp⟩:=get_some (zu HL) h;have hne : L ≠ []:=by intro e;subst e;cases hp
   obtain ⟨b,o,rfl,hbl,hc⟩:=((zu HU).bel (zu HW)) hne;have b0:=hc i p hp;have HS : Hid ((L.take (i + 1)).foldl ins [] = ins ((L.take i).foldl ins []) p):=hide (by rw [List.take_add_one,hp,List.foldl_append];rfl);have wi : IntKind.i64.wrap ((i : Int) + 1) = (i : Int) + 1:=wrap_i (by omega) (by omega);clear hp hc hne;generalize (L.take i).foldl ins [] = A at *;have HH:=hide (has_any (some ⟨g,0,none⟩) m c A p wr (zu HMA) (by omega) (zu HST))
   cases hq : hasT A p
   rotate_left
   ·rw [hq] at HH
    have HIY:=hide (ins_yes hq);clear hq;go_wp2_with fail;refine (zu HH).mono ?_;rintro e W4 ⟨rfl,rfl⟩;go_wp2_with fail;go_roundw
    case rel => exact ⟨i + 1,g,c,m,by simp,h,rfl,by omega,by rw [zu HS,zu HIY];exact zu HRW,zu HW⟩
    case measure => simp only [intOf];omega
   rw [hq] at HH;have HIN:=hide (ins_no hq);have HLS:=hide (fun k (hk : k ≤ psn A p) => psn_step (p:=p) hk);generalize hln : psn A p = ln at *;have hlA : ln ≤ A.length:=(zu HLS 0 (Nat.zero_le _)).2.2;rw [zu HMA] at hlA;clear hln hq;go_wp2_with fail;refine (zu HH).mono ?_;rintro e W4 ⟨rfl,rfl⟩;go_wp2_with fail
   go_loopw [5] (fun s W => ∃ k : Nat,s = .int .i64 (k : Int) ∧ k ≤ ln ∧ Below W4.heap.size W4 W) (fun s _ => ln - (intOf s).toNat)
   case atStart => exact ⟨0,rfl,by omega,bfl _ _⟩
   case round =>
    obtain ⟨k,rfl,hk,hw2⟩:=hrel;have HW2:=hide hw2;have HWW : Hid (Below w.heap.size w wr):=hide (bc (zu HW) hw2);have HR2:=hide (own_bel (zu HRW) hw2);have hsz2:=hw2.size;have c0:=keep1 hw2 b0;have lb:=cell_lt c0;clear hw2;obtain ⟨ls1,ls2,_⟩:=zu HLS k hk;have k0 : (0 : Int) ≤ (k : Int):=by omega
    have wk : IntKind.i64.wrap ((k : Int) + 1) = (k : Int) + 1:=wrap_i (by omega) (by omega)
    by_cases hkl : k < ln
    ·obtain ⟨q,hq,hqp⟩:=ls1 hkl
     have hkA : k < m:=by omega
     have qa:=own_cells (zu HR2) (strs_at hq);have d1 : decide ((k : Int) < (m : Int)) = true:=dt (by omega);have d2 : (k : Int) < (m : Int):=by omega
     have d3 : Op.bytesLess q.toList p.toList = true:=hqp;clear ls1 ls2 hq hqp;go_wp2_with fail
     go_quiet (fail)
     go_wp2_with fail;go_roundw
     case rel => exact ⟨k + 1,by simp,by omega,(zu HW2).trans ⟨rfl,rfl,rfl,Nat.le_refl _,fun _ _ => rfl⟩⟩
     case measure => simp only [intOf];omega
    ·obtain ⟨hkn,hcase⟩:=ls2 hkl
     have HKN:=hide hkn;clear ls1 ls2 hkn
     rcases hcase with hkA | ⟨q,hq,hqp⟩
     ·have hkm : k = m:=by rw [hkA];exact zu HMA
      have HKM:=hide hkm;have d1 : decide ((k : Int) < (m : Int)) = false:=df (by omega);have d3 : ¬ (k : Int) < (m : Int):=by omega
      have d4 : ¬ k < m:=by omega
      clear hkA hkm;go_wp2_with fail
      go_quiet (fail)
      have hkle : k ≤ m:=by have:=hlA;omega
      have HDN : Hid (Below wr.heap.size wr (wr.drewN nq)):=hide ⟨rfl,rfl,rfl,Nat.le_refl _,fun _ _ => rfl⟩;have HRV : Hid ((wr.drewN nq).ownsRow w.heap.size 9 1 (.slice (some ⟨g,0,none⟩) m c) m (strs A)):=hide (own_bel (zu HR2) (zu HDN));have HWV : Hid (Below w.heap.size w (wr.drewN nq)):=hide (bc (zu HWW) (zu HDN));have c1 : (wr.drewN nq).cell? ⟨b,o + i,none⟩ = some (.string p):=keep1 (zu HDN) c0;have hgV : g < (wr.drewN nq).heap.size:=by show g < wr.heap.size;omega
      have hszV : w.heap.size ≤ (wr.drewN nq).heap.size:=(zu HWV).size;have hnV : (wr.drewN nq).heap.size = wr.heap.size:=rfl;clear hnV;generalize wr.drewN nq = V at *;clear b0 lb c0
      try clear qa
      obtain ⟨ad,had,hsrc⟩:=tail_ad1 g c k (strs A) (by rw [strs_len,zu HMA];exact hkle) (by rw [strs_len,zu HMA];exact hc1);have HSRC:=hide hsrc;have kk2 : (k : Int) ≤ (m : Int):=by omega
      have kk3 : (k : Int) ≤ (c : Int):=by omega
      have kk4 : (m : Int) ≤ (c : Int):=by omega
      clear hsrc
      go_wp2_with (at_builtin;refine zu ?_)
      refine hide ?_;refine wpList_append_own _ rfl _ _ 23 rfl V.heap.size 9 iT _ 1 16 Tryz.underlying23 ht hx0 hx1 hx2 rfl (by decide) _ 0 [] rfl (own_made _ 9 _ 1 (Nat.le_refl _) _ rfl) ad (m - k) (c - k) ((strs A).drop k) rfl (by rw [List.length_drop,strs_len,zu HMA];omega) (zu HSRC _ (fun j x hj => ka (own_cells (zu HRV) hj))) (fun u hu => strs_oneL u (List.mem_of_mem_drop hu)) (by unfold maxLen;omega) (by omega) (by simp) ?_;intro vr wz hown' hgrow hvn;have R:=own_firstV (wr:=V) (news:=(strs A).drop k) (ba (bfl _ _) _) (by simp) (Nat.le_refl _) hown' hgrow
      obtain ⟨gr,cr,rfl,hgr1,hgr2,hcr1,hcr2⟩:=own_sm R.1 (fun e => by have:=(hvn.1 e).1;cases this);have HRR:=hide R.1;have HBz:=hide R.2;have HRz:=hide (own_bel (zu HRV) R.2);have z0:=keep1 R.2 c1;have lz:=cell_lt z0;have hgz : g < wz.heap.size:=Nat.lt_of_lt_of_le hgV R.2.size;have hszz:=R.2.size;have hgrg : gr ≠ g:=by omega
      have HPO : Hid (wz.ownsRow w.heap.size 9 1 (.slice (some ⟨g,0,none⟩) k c) k ((strs A).take k)):=hide (by have:=own_popW (zu HRz) (m:=k) hkle;rw [Nat.mul_one] at this;exact this);have HIR:=hide (fun j x (h : ((strs A).drop k)[j]? = some x) => own_cells (zu HRR) h);clear hown' hgrow hvn R c1;go_wp2_with fail
      go_region_law
       (first
       | (refine step_own (by rfl) (.tmp 44) (.tmp 49) _ (by rfl) w.heap.size 9 iT _ 1 16 Tryz.underlying23 ht hx0 hx1 hx2 rfl (by omega) (.slice (some ⟨g,0,none⟩) k c) k ((strs A).take k) (by rfl) (by first | exact (zu HPO).alloc _ | exact ((zu HPO).alloc _).drew | exact ((zu HPO).drew.alloc _))
           ⟨_,0,none⟩ 1 1 (strs [p]) (by rfl) (by rfl) (by first | exact news_cells _ _ rfl | exact news_cells _ _ (by simp) | exact news_drew _ _ (by simp)) strs_oneL (by unfold maxLen;omega) (by omega) (by simp;omega) ?_;intro v1 w1 hown' hgrow hvn1;have R1:=hide (own_moreV (wr:=wz) (news:=strs [p]) (by repeat (first | exact bfl _ _ | refine Below.alloc ?_ (by first | omega | (simp;omega)) _ | refine Below.drew ?_)) (by simp;omega) (zu HPO) hown' hgrow);have HIR1 : Hid (∀ j x,((strs A).drop k)[j]? = some x → w1.cell? ⟨gr,j,none⟩ = some x):=hide (fun j x h => (World.cell?_of_block (a:=⟨gr,j,none⟩) ((hgrow.block gr (by simp;omega) (by simp [Value.ownBlock];omega)).trans (by first | exact Below.heap_alloc _ _ _ (by simp;omega) | exact Below.heap_alloc _ _ _ (by omega)))).trans (zu HIR j x h));have hs1:=(zu R1).2.size;have HN1 : Hid (v1 ≠ .slice none 0 0):=hide (fun e => by have:=(hvn1.1 e).1;cases this);clear hown' hgrow hvn1)
       | (refine step_own (by rfl) (.tmp 50) (.tmp 51) _ (by rfl) w.heap.size 9 iT _ 1 16 Tryz.underlying23 ht hx0 hx1 hx2 rfl (by omega) v1 (k + 1) ((strs A).take k ++ strs [p]) (by rfl) (zu R1).1
           ⟨gr,0,none⟩ (m - k) cr ((strs A).drop k) (by rfl) (by rw [List.length_drop,strs_len,zu HMA];omega) (fun j x h => by rw [add_none,Nat.zero_add];exact zu HIR1 j x h) (fun u hu => strs_oneL u (List.mem_of_mem_drop hu))
           (by unfold maxLen;omega) (by omega) (by omega) ?_;intro v2 w2 hown' hgrow hvn2;have R2:=hide (own_moreV (wr:=w1) (L:=(strs A).take k ++ strs [p]) (news:=(strs A).drop k) (bfl _ _) (by omega) (zu R1).1 hown' hgrow);have HN2 : Hid (v2 ≠ .slice none 0 0):=hide (fun e => zu HN1 (hvn2.1 e).1);clear hown' hgrow hvn2))
      all_goals
       obtain ⟨g2,c2,rfl,hg21,hg22,hc21,hc22⟩:=own_sm (zu R2).1 (zu HN2);go_wp2_with fail;go_roundw
       case rel =>
        have H : ∃ (i' g' c' m' : Nat),Value.int .i64 ((i : Int) + 1) = .int .i64 (i' : Int) ∧ i' ≤ n ∧ Value.slice (some ⟨g2,0,none⟩) (k + 1 + (m - k)) c2 = .slice (some ⟨g',0,none⟩) m' c' ∧ m' ≤ i' ∧ w2.ownsRow w.heap.size 9 1 (.slice (some ⟨g',0,none⟩) m' c') m' (strs ((L.take i').foldl ins [])) ∧ Below w.heap.size w w2:=by
         refine ⟨i + 1,g2,c2,k + 1 + (m - k),by simp,by omega,rfl,by omega,?_,?_⟩
         ·have hR:=(zu R2).1
          rw [zu HS,zu HIN,← zu HKN,strs_app];have e1 : strs (A.take k) = (strs A).take k:=by simp [strs,List.map_take]
          have e2 : strs (p :: A.drop k) = strs [p] ++ (strs A).drop k:=by simp [strs,List.map_drop]
          rw [e1,e2,← List.append_assoc];exact hR
         ·exact ((bc (zu HWV) (zu HBz)).trans (zu R1).2).trans (zu R2).2
        first | exact H | ((repeat apply Exists.intro);refine ⟨?_,rfl⟩;exact H)
       case measure => simp only [intOf];omega
     ·have hkA : k < m:=by have:=(List.getElem?_eq_some_iff.1 hq).1;rw [zu HMA] at this;exact this
      have qa:=own_cells (zu HR2) (strs_at hq);have d1 : decide ((k : Int) < (m : Int)) = true:=dt (by omega);have d2 : (k : Int) < (m : Int):=by omega
      have d3 : Op.bytesLess q.toList p.toList = false:=hqp;clear hq hqp;go_wp2_with fail
      go_quiet (fail)
      have hkle : k ≤ m:=by have:=hlA;omega
      have HDN : Hid (Below wr.heap.size wr (wr.drewN nq)):=hide ⟨rfl,rfl,rfl,Nat.le_refl _,fun _ _ => rfl⟩;have HRV : Hid ((wr.drewN nq).ownsRow w.heap.size 9 1 (.slice (some ⟨g,0,none⟩) m c) m (strs A)):=hide (own_bel (zu HR2) (zu HDN));have HWV : Hid (Below w.heap.size w (wr.drewN nq)):=hide (bc (zu HWW) (zu HDN));have c1 : (wr.drewN nq).cell? ⟨b,o + i,none⟩ = some (.string p):=keep1 (zu HDN) c0;have hgV : g < (wr.drewN nq).heap.size:=by show g < wr.heap.size;omega
      have hszV : w.heap.size ≤ (wr.drewN nq).heap.size:=(zu HWV).size;have hnV : (wr.drewN nq).heap.size = wr.heap.size:=rfl;clear hnV;generalize wr.drewN nq = V at *;clear b0 lb c0
      try clear qa
      have hsrc : ∀ (W : World),(∀ j x,(strs A)[j]? = some x → W.cell? ⟨g,j,none⟩ = some x) → ∀ (j : Nat) (u : Value),((strs A).drop k)[j]? = .some u → W.cell? ((⟨g,k,none⟩ : Addr).add j) = .some u:=fun W hW j u hj => by
       rw [List.getElem?_drop] at hj;rw [add_none];exact hW _ _ hj
      have HSRC:=hide hsrc;have kk2 : (k : Int) ≤ (m : Int):=by omega
      have kk3 : (k : Int) ≤ (c : Int):=by omega
      have kk4 : (m : Int) ≤ (c : Int):=by omega
      clear hsrc
      go_wp2_with (at_builtin;refine zu ?_)
      refine hide ?_;refine wpList_append_own _ rfl _ _ 23 rfl V.heap.size 9 iT _ 1 16 Tryz.underlying23 ht hx0 hx1 hx2 rfl (by decide) _ 0 [] rfl (own_made _ 9 _ 1 (Nat.le_refl _) _ rfl) ⟨g,k,none⟩ (m - k) (c - k) ((strs A).drop k) rfl (by rw [List.length_drop,strs_len,zu HMA];omega) (zu HSRC _ (fun j x hj => ka (own_cells (zu HRV) hj))) (fun u hu => strs_oneL u (List.mem_of_mem_drop hu)) (by unfold maxLen;omega) (by omega) (by simp) ?_;intro vr wz hown' hgrow hvn;have R:=own_firstV (wr:=V) (news:=(strs A).drop k) (ba (bfl _ _) _) (by simp) (Nat.le_refl _) hown' hgrow
      obtain ⟨gr,cr,rfl,hgr1,hgr2,hcr1,hcr2⟩:=own_sm R.1 (fun e => by have:=(hvn.1 e).1;cases this);have HRR:=hide R.1;have HBz:=hide R.2;have HRz:=hide (own_bel (zu HRV) R.2);have z0:=keep1 R.2 c1;have lz:=cell_lt z0;have hgz : g < wz.heap.size:=Nat.lt_of_lt_of_le hgV R.2.size;have hszz:=R.2.size;have hgrg : gr ≠ g:=by omega
      have HPO : Hid (wz.ownsRow w.heap.size 9 1 (.slice (some ⟨g,0,none⟩) k c) k ((strs A).take k)):=hide (by have:=own_popW (zu HRz) (m:=k) hkle;rw [Nat.mul_one] at this;exact this);have HIR:=hide (fun j x (h : ((strs A).drop k)[j]? = some x) => own_cells (zu HRR) h);clear hown' hgrow hvn R c1;go_wp2_with fail
      go_region_law
       (first
       | (refine step_own (by rfl) (.tmp 44) (.tmp 49) _ (by rfl) w.heap.size 9 iT _ 1 16 Tryz.underlying23 ht hx0 hx1 hx2 rfl (by omega) (.slice (some ⟨g,0,none⟩) k c) k ((strs A).take k) (by rfl) (by first | exact (zu HPO).alloc _ | exact ((zu HPO).alloc _).drew | exact ((zu HPO).drew.alloc _))
           ⟨_,0,none⟩ 1 1 (strs [p]) (by rfl) (by rfl) (by first | exact news_cells _ _ rfl | exact news_cells _ _ (by simp) | exact news_drew _ _ (by simp)) strs_oneL (by unfold maxLen;omega) (by omega) (by simp;omega) ?_;intro v1 w1 hown' hgrow hvn1;have R1:=hide (own_moreV (wr:=wz) (news:=strs [p]) (by repeat (first | exact bfl _ _ | refine Below.alloc ?_ (by first | omega | (simp;omega)) _ | refine Below.drew ?_)) (by simp;omega) (zu HPO) hown' hgrow);have HIR1 : Hid (∀ j x,((strs A).drop k)[j]? = some x → w1.cell? ⟨gr,j,none⟩ = some x):=hide (fun j x h => (World.cell?_of_block (a:=⟨gr,j,none⟩) ((hgrow.block gr (by simp;omega) (by simp [Value.ownBlock];omega)).trans (by first | exact Below.heap_alloc _ _ _ (by simp;omega) | exact Below.heap_alloc _ _ _ (by omega)))).trans (zu HIR j x h));have hs1:=(zu R1).2.size;have HN1 : Hid (v1 ≠ .slice none 0 0):=hide (fun e => by have:=(hvn1.1 e).1;cases this);clear hown' hgrow hvn1)
       | (refine step_own (by rfl) (.tmp 50) (.tmp 51) _ (by rfl) w.heap.size 9 iT _ 1 16 Tryz.underlying23 ht hx0 hx1 hx2 rfl (by omega) v1 (k + 1) ((strs A).take k ++ strs [p]) (by rfl) (zu R1).1
           ⟨gr,0,none⟩ (m - k) cr ((strs A).drop k) (by rfl) (by rw [List.length_drop,strs_len,zu HMA];omega) (fun j x h => by rw [add_none,Nat.zero_add];exact zu HIR1 j x h) (fun u hu => strs_oneL u (List.mem_of_mem_drop hu))
           (by unfold maxLen;omega) (by omega) (by omega) ?_;intro v2 w2 hown' hgrow hvn2;have R2:=hide (own_moreV (wr:=w1) (L:=(strs A).take k ++ strs [p]) (news:=(strs A).drop k) (bfl _ _) (by omega) (zu R1).1 hown' hgrow);have HN2 : Hid (v2 ≠ .slice none 0 0):=hide (fun e => zu HN1 (hvn2.1 e).1);clear hown' hgrow hvn2))
      all_goals
       obtain ⟨g2,c2,rfl,hg21,hg22,hc21,hc22⟩:=own_sm (zu R2).1 (zu HN2);go_wp2_with fail;go_roundw
       case rel =>
        have H : ∃ (i' g' c' m' : Nat),Value.int .i64 ((i : Int) + 1) = .int .i64 (i' : Int) ∧ i' ≤ n ∧ Value.slice (some ⟨g2,0,none⟩) (k + 1 + (m - k)) c2 = .slice (some ⟨g',0,none⟩) m' c' ∧ m' ≤ i' ∧ w2.ownsRow w.heap.size 9 1 (.slice (some ⟨g',0,none⟩) m' c') m' (strs ((L.take i').foldl ins [])) ∧ Below w.heap.size w w2:=by
         refine ⟨i + 1,g2,c2,k + 1 + (m - k),by simp,by omega,rfl,by omega,?_,?_⟩
         ·have hR:=(zu R2).1
          rw [zu HS,zu HIN,← zu HKN,strs_app];have e1 : strs (A.take k) = (strs A).take k:=by simp [strs,List.map_take]
          have e2 : strs (p :: A.drop k) = strs [p] ++ (strs A).drop k:=by simp [strs,List.map_drop]
          rw [e1,e2,← List.append_assoc];exact hR
         ·exact ((bc (zu HWV) (zu HBz)).trans (zu R1).2).trans (zu R2).2
        first | exact H | ((repeat apply Exists.intro);refine ⟨?_,rfl⟩;exact H)
       case measure => simp only [intOf];omega
  ·have iz : decide ((i : Int) < (n : Int)) = false:=df (by omega)
   have en : n = i:=by omega
   have HE : Hid (L.take i = L):=hide (List.take_of_length_le (by rw [zu HL];omega));go_wp2_with fail;go_ret;refine ⟨_,rfl,?_,zu HW⟩;have hr:=zu HRW;rw [zu HE] at hr;have hm2:=zu HMA;rw [zu HE] at hm2;unfold SRow srt;rw [hm2];exact hr
theorem fit_ok (b : Bx) : fitB 0 24 b.x0 b.y0 b.z0 b.x1 b.y1 b.z1 = bxOk b:=by
 unfold fitB bxOk axOk;rw [Bool.eq_iff_iff];simp;omega
theorem beyond_any (b : Bx) (w : World) : Calls Tryz.prog 156 #[bxv b] w fun e w' => e = .returned (.bool (!bxOk b)) ∧ Below w.heap.size w w':=by
 have HF:=hide (fun W => fits_any 0 24 b.x0 b.y0 b.z0 b.x1 b.y1 b.z1 W);rw [fit_ok] at HF
 obtain ⟨r,hr⟩ : ∃ r,bxOk b = r:=⟨_,rfl⟩
 rw [hr] at HF ⊢;clear hr;obtain ⟨x0,y0,z0,x1,y1,z1⟩:=b;unfold bxv;simp only at HF ⊢;go_enter Tryz.func156,Tryz.ntmps156;go_wp2_with fail;refine (zu HF _).mono ?_;rintro e W ⟨rfl,hb⟩;have HB:=hide hb;clear hb;go_wp2_with fail;go_ret;exact ⟨rfl,bc (ba (bfl _ _) _) (zu HB)⟩
theorem indexF_any (l : List Bx) (n cu p po : Nat) (u : Option Addr) (w : World) (hl : l.length = n) (hn : n ≤ 100000) (hu : SlG bxc 6 w u p po l) :
  Calls Tryz.prog 178 #[.slice u n cu,.func (.func 156) #[] #[]] w fun e w' => (∃ r : Int,e = .returned (.int .i64 r) ∧ decide (0 ≤ r) = l.any fun b => !bxOk b) ∧ Below w.heap.size w w':=by
 have HU:=hide (fun W (h : Below w.heap.size w W) => hu.bel h);have HL:=hide hl;clear hu hl;go_enter Tryz.func178,Tryz.ntmps178;go_wp2_with fail
 go_loopw [8] (fun s8 W => ∃ i : Nat,s8 = .int .i64 (i : Int) ∧ i ≤ n ∧ (∀ b ∈ l.take i,bxOk b = true) ∧ Below w.heap.size w W) (fun s8 _ => n - (intOf s8).toNat)
 case atStart => exact ⟨0,rfl,Nat.zero_le _,fun b hb => by simp at hb,bfl _ _⟩
 case round =>
  obtain ⟨i,rfl,hi,hok,hb⟩:=hrel;have HB:=hide hb;have HOK:=hide hok;clear hok
  by_cases h : i < n
  ·have iz : decide ((i : Int) < (n : Int)) = true:=dt (by omega)
   have i1 : (i : Int) < (n : Int):=by omega
   have i0 : (0 : Int) ≤ (i : Int):=Int.natCast_nonneg _;have wi : IntKind.i64.wrap ((i : Int) + 1) = ((i + 1 : Nat) : Int):=(wrap_i (by omega) (by omega)).trans (by simp);obtain ⟨b,hx⟩:=get_some (zu HL) h;have HX:=hide hx;have HBY:=hide (fun W => beyond_any b W);have HI:=hide h
   obtain ⟨r,hr⟩ : ∃ r,bxOk b = r:=⟨_,rfl⟩
   rw [hr] at HBY;have HR:=hide hr;obtain ⟨c0,c1,c2,c3,c4,c5⟩:=b;obtain ⟨rfl,hpw,hc⟩:=(zu HU _ hb).at hx;have x0:=hc 0 _ rfl;have x1:=hc 1 _ rfl;have x2:=hc 2 _ rfl;have x3:=hc 3 _ rfl;have x4:=hc 4 _ rfl;have x5:=hc 5 _ rfl;rw [Nat.add_zero] at x0;unfold bxv at HBY;clear hx hc hr hb;go_wp2_with fail;refine (zu HBY _).mono ?_;rintro e W4 ⟨rfl,hb4⟩;have HB4:=hide (bc (zu HB) hb4);clear hb4 x0 x1 x2 x3 x4 x5
   cases r with
   | true =>
    go_wp2_with fail;go_roundw
    case rel =>
     refine ⟨i + 1,by simp,zu HI,fun q hq => ?_,zu HB4⟩;rw [List.take_add_one,zu HX,List.mem_append] at hq
     rcases hq with hq | hq
     ·exact zu HOK q hq
     ·simp at hq
      rw [hq];exact zu HR
    case measure => have:=zu HI;simp only [intOf];omega
   | false =>
    go_wp2_with fail;go_ret;refine ⟨⟨_,rfl,?_⟩,zu HB4⟩;rw [dt (Int.natCast_nonneg _)];symm;rw [List.any_eq_true];exact ⟨_,List.mem_of_getElem? (zu HX),by rw [zu HR];rfl⟩
  ·obtain rfl : i = n:=by omega
   have iz : decide ((i : Int) < (i : Int)) = false:=df (by omega);go_wp2_with fail;go_ret;refine ⟨⟨_,rfl,?_⟩,zu HB⟩;have h9:=zu HOK;rw [List.take_of_length_le (Nat.le_of_eq (zu HL))] at h9;symm
   show (l.any fun b => !bxOk b) = false
   rw [List.any_eq_false];intro b hb;rw [h9 b hb];simp
theorem containsF_any (l : List Bx) (n cu p po : Nat) (u : Option Addr) (w : World) (hl : l.length = n) (hn : n ≤ 100000) (hu : SlG bxc 6 w u p po l) :
  Calls Tryz.prog 155 #[.slice u n cu,.func (.func 156) #[] #[]] w fun e w' => e = .returned (.bool (l.any fun b => !bxOk b)) ∧ Below w.heap.size w w':=by
 have HI:=hide (fun W (h : Below w.heap.size w W) => indexF_any l n cu p po u W hl hn (hu.bel h))
 obtain ⟨r,hr⟩ : ∃ r,(l.any fun b => !bxOk b) = r:=⟨_,rfl⟩
 rw [hr] at HI ⊢;clear hr hu;go_enter Tryz.func155,Tryz.ntmps155;go_wp2_with fail;refine (zu HI _ (bfl _ _)).mono ?_;rintro e W ⟨⟨q,rfl,hq⟩,hb⟩;have HB:=hide hb;have HQ:=hide hq;clear hb hq;go_wp2_with fail;go_ret;exact ⟨by rw [← zu HQ];rfl,zu HB⟩
def sgB (b : Bool) : Int:=if b then 35 else 46
def rowL (c : Cs) (y z : Nat) : List Int:=(List.range 24).map fun x => sgB (c.full (at3 x y z))
def txB (L : List Int) : ByteArray:=⟨(L.map fun x => UInt8.ofNat x.toNat).toArray⟩
def sect (c : Cs) (z : Nat) : List ByteArray:=(List.range 24).map fun y => txB (rowL c y z)
theorem sect_len (c : Cs) (z : Nat) : (sect c z).length = 24:=by simp [sect]
theorem runB_code {fs : List Ft} {L : Nat → Bool} : ∀ (l : List Nat) (B : Bd) {x : Int × List ByteArray},runB fs L l B = .inl x → x.1 ≠ 0
 | [],B,x,h => by cases h
 | k :: l,B,x,h => by
  have h' : (if L k = true then runB fs L l B else match doF fs B k with | .inl x => .inl x | .inr B' => runB fs L l B') = .inl x:=h
  by_cases e : L k = true
  ·rw [if_pos e] at h'
   exact runB_code l B h'
  ·rw [if_neg e] at h'
   cases hd : doF fs B k with
   | inl y => rw [hd] at h';cases h';exact doF_code hd
   | inr B' => rw [hd] at h';exact runB_code l B' h'
theorem Bu.zero {fs : List Ft} {off ab : List ByteArray} {D : Option Bd} (h : Bu fs off 0 ab D) : ∃ D',D = some D':=by
 unfold Bu at h
 split at h
 ·exact absurd h.1 (by decide)
 ·obtain ⟨c0,ab0,_,⟨h1,h2,_⟩ | ⟨_,⟨i,s,_,_,_,h2,_⟩ | ⟨_,⟨x,hx,h2,_⟩ | ⟨B,_,_,_,rfl⟩⟩⟩⟩:=h
  ·exact absurd h2.symm h1
  ·exact absurd h2 (by decide)
  ·exact absurd h2.symm (runB_code _ _ hx)
  ·exact ⟨B,rfl⟩
def ScAns (fs : List Ft) (off : List ByteArray) (z : Int) (c : Int) (rows : List ByteArray) : Prop :=
 ∃ cb ab D,Bu fs off cb ab D ∧ ((cb ≠ 0 ∧ c = cb ∧ rows = []) ∨ (cb = 0 ∧ ¬ (0 ≤ z ∧ z ≤ 23) ∧ c = 5 ∧ rows = []) ∨ (cb = 0 ∧ (0 ≤ z ∧ z ≤ 23) ∧ c = 0 ∧ ∃ D',D = some D' ∧ rows = sect D'.cs z.toNat))
theorem ScAns.len {fs : List Ft} {off : List ByteArray} {z c : Int} {rows : List ByteArray} (h : ScAns fs off z c rows) : rows.length ≤ 4096:=by
 obtain ⟨cb,ab,D,_,⟨_,_,rfl⟩ | ⟨_,_,_,rfl⟩ | ⟨_,_,_,D',_,rfl⟩⟩:=h
 ·simp
 ·simp
 ·rw [sect_len];omega
theorem ScAns.uniq {fs : List Ft} {off : List ByteArray} {z c c' : Int} {rows rows' : List ByteArray} (h : ScAns fs off z c rows) (k : ScAns fs off z c' rows') : c = c' ∧ rows = rows':=by
 obtain ⟨cb,ab,D,hb,h⟩:=h;obtain ⟨cb',ab',D',hb',k⟩:=k;obtain ⟨rfl,rfl,rfl⟩:=hb.uniq hb'
 rcases h with ⟨h1,rfl,rfl⟩ | ⟨h1,h2,rfl,rfl⟩ | ⟨h1,h2,rfl,E,rfl,rfl⟩
 ·rcases k with ⟨k1,rfl,rfl⟩ | ⟨k1,_⟩ | ⟨k1,_⟩
  ·exact ⟨rfl,rfl⟩
  ·exact (h1 k1).elim
  ·exact (h1 k1).elim
 ·rcases k with ⟨k1,_⟩ | ⟨k1,k2,rfl,rfl⟩ | ⟨k1,k2,_⟩
  ·exact (k1 h1).elim
  ·exact ⟨rfl,rfl⟩
  ·exact (h2 k2).elim
 ·rcases k with ⟨k1,_⟩ | ⟨k1,k2,_⟩ | ⟨k1,k2,rfl,E',e,rfl⟩
  ·exact (k1 h1).elim
  ·exact (k2 h2).elim
  ·cases e
   exact ⟨rfl,rfl⟩
end Go.Proofs.YtkiplmabjeadgaaGreat
