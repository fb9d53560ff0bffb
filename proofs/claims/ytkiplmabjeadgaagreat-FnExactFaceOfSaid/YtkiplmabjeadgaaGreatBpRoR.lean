/- The program's FaceOf. -/
import Derived.Test.YtkiplmabjeadgaaGreatBpBmR
import Derived.Test.YtkiplmabjeadgaaGreatRhPR
import Derived.Test.YtkiplmabjeadgaaGreatBdF9R
import Derived.Test.YtkiplmabjeadgaaGreatBpW1R
import Derived.Test.YtkiplmabjeadgaaGreatBpWoR
namespace Go.Proofs.YtkiplmabjeadgaaGreat
set_option maxRecDepth 100000
set_option maxHeartbeats 16000000
open Go.ChangeShapes Go.WideShapes Go.ChangeAt Go.RowKit Go.Maps Go.WideMaps
set_option linter.unusedVariables false
set_option linter.unusedSimpArgs false
def RoAns (u : Option Addr) (n cu : Nat) (fs : List Ft) (off : List ByteArray) (w : World) (e : Ending) (w' : World) : Prop :=
 (∃ h0 h1 h2 h3 c v3 ab,e = .returned (.tuple #[.agg #[h0,h1,h2,h3],.int .i64 c,v3]) ∧ SRow w' w.heap.size v3 ab ∧ (∀ v ∈ [h0,h1,h2,h3],v.oneCell' = true) ∧
  ((c ≠ 0 ∧ Bu fs off c ab none) ∨ (c = 0 ∧ ab = [] ∧ ¬ 4096 < off.length ∧ Chk fs 0 [] ∧ (∀ s ∈ off,findN fs s ≠ none) ∧
   ∃ b ua c3 ub c4,h0 = .slice u n cu ∧ h1 = .map (some b) ∧ h2 = .slice ua n c3 ∧ h3 = .slice ub n c4 ∧ MapOf w' b fs n ∧ NmAt w' ua (nms fs) ∧ Inn w' (.slice ub n c4) (ord (nms fs))))) ∧ Below w.heap.size w w'
theorem row_ne (W : World) {g g' : Nat} (cs : Array Value) (h : g ≠ g') : (W.setRow g' cs).heap[g]? = W.heap[g]?:=by
 show (W.heap.modify g' _)[g]? = _
 rw [Array.getElem?_modify,if_neg (fun e => h e.symm)]
theorem SRow.row {W : World} {B g' : Nat} {v : Value} {l : List ByteArray} (h : SRow W B v l) (cs : Array Value) (hg : g' < B) : SRow (W.setRow g' cs) B v l :=
 own_kept h fun g hq => row_ne W cs (by have:=own_ge h g hq;omega)
theorem info135 : (Tryz.prog.info? 135).map (·.size) = some 4:=by kernel_rfl
theorem readOff_any (u : Option Addr) (p po n cu : Nat) (fs : List Ft) (uf : Option Addr) (mf cf : Nat) (off : List ByteArray) (w : World) (hl : fs.length = n) (hn : n ≤ 1048576) (hs : ∀ f ∈ fs,f.nm.size ≤ maxLen ∧ f.on.size ≤ maxLen ∧ f.ov.size ≤ maxLen) (hu : SlG ftc 15 w u p po fs)
  (hof : off.length = mf) (hmf : mf ≤ 1048576) (hos : ∀ s ∈ off,s.size ≤ maxLen) (hst : StAt w uf off) :
  Calls Tryz.prog 83 #[.slice u n cu,.slice uf mf cf] w (RoAns u n cu fs off w):=by
 have HR0:=hide (vb_new w 135 [.slice none 0 0,.map none,.slice none 0 0,.slice none 0 0] _ rfl)
 by_cases hlong : 4096 < mf
 ·have d1 : decide ((4096 : Int) < (mf : Int)) = true:=dt (by omega)
  have hbu : Bu fs off 2 [] none:=by unfold Bu;rw [if_pos (by omega)];exact ⟨rfl,rfl,rfl⟩
  have HD:=hide hbu;clear hu hs hbu hst hos hof;have HI:=hide info135;have HO : Hid (∀ v ∈ [Value.slice none 0 0,.map none,.slice none 0 0,.slice none 0 0],v.oneCell' = true):=hide (by simp [Value.oneCell']);go_enter Tryz.func83,Tryz.ntmps83
  go_wp2_with (refine wpl_storeRow rfl 135 _ _ rfl w.heap.size [.slice none 0 0,.map none,.slice none 0 0,.slice none 0 0] rfl rfl 135 _ (zu HR0) (zu HI) rfl (zu HO) ?_)
  have h4:=vb_row (zu HR0) [.slice none 0 0,.map none,.slice none 0 0,.slice none 0 0];have z0:=h4.cell (m:=0) rfl;have z1:=h4.cell (m:=1) rfl;have z2:=h4.cell (m:=2) rfl;have z3:=h4.cell (m:=3) rfl
  have HE:=hide (show RoAns u n cu fs off w (.returned (.tuple #[.agg #[.slice none 0 0,.map none,.slice none 0 0,.slice none 0 0],.int .i64 2,.slice none 0 0])) ((w.alloc (.cells #[.slice none 0 0,.map none,.slice none 0 0,.slice none 0 0] 135)).setRow w.heap.size [Value.slice none 0 0,.map none,.slice none 0 0,.slice none 0 0].toArray) from
    ⟨⟨_,_,_,_,_,_,[],rfl,own_nil _ _ _ _,by simp [Value.oneCell'],.inl ⟨by decide,zu HD⟩⟩,bel_row (ba (bfl _ _) _) (Nat.le_refl _) _⟩)
  clear h4;refine bodyPost_ret (v:=.tuple #[.agg #[.slice none 0 0,.map none,.slice none 0 0,.slice none 0 0],.int .i64 2,.slice none 0 0]) (by simp [results,Tryz.results83,go_sem,z0,z1,z2,z3];done) rfl ?_;exact zu HE
 have d1 : decide ((4096 : Int) < (mf : Int)) = false:=df (by omega);have hbA:=ba (bfl w.heap.size w) (.cells #[.slice none 0 0,.map none,.slice none 0 0,.slice none 0 0] 135);have HRD:=hide (readP_any u p po n cu fs _ hl hn hs (hu.bel hbA));have HBA:=hide hbA;have HU:=hide hu;have HL:=hide hl;have HST:=hide hst;have HOF:=hide hof;have HOS:=hide hos;have HLG:=hide (show ¬ 4096 < off.length by omega);clear hu hl hs hst hof hos hbA;go_enter Tryz.func83,Tryz.ntmps83;go_wp2_with fail;refine (zu HRD).mono ?_
 rintro e W1 ⟨⟨b,ua,n3,c3,ub,n4,c4,c,v3,ab,rfl,hck,hsr,hok⟩,hb⟩;have hR1:=(zu HR0).bel hb;have HB:=hide (bc (zu HBA) hb);obtain ⟨us,cs,rfl,_⟩:=own_form hsr;have HI:=hide info135
 have hHo : (#[.slice u n cu,.map (some b),.slice ua n3 c3,.slice ub n4 c4] : Array Value).all (·.oneCell') = true:=by simp [Value.oneCell']
 have HO:=hide hHo;have HOL : Hid (∀ v ∈ [Value.slice u n cu,.map (some b),.slice ua n3 c3,.slice ub n4 c4],v.oneCell' = true):=hide (by simp [Value.oneCell']);have HVH:=hide (vb_new W1 135 [.slice u n cu,.map (some b),.slice ua n3 c3,.slice ub n4 c4] _ rfl);have HB2:=hide (ba (zu HB) (.cells #[.slice u n cu,.map (some b),.slice ua n3 c3,.slice ub n4 c4] 135));have hbH:=ba (bfl W1.heap.size W1) (.cells #[.slice u n cu,.map (some b),.slice ua n3 c3,.slice ub n4 c4] 135);have HR2:=hide (hR1.bel hbH);have HS2:=hide (hsr.bel hbH);have HCK:=hide hck
 have HOK : Hid (c = 0 → _):=hide hok;have k0:=(zu HVH).cell (m:=0) rfl;have k1:=(zu HVH).cell (m:=1) rfl;have k2:=(zu HVH).cell (m:=2) rfl;have k3:=(zu HVH).cell (m:=3) rfl;have hwW : w.heap.size < W1.heap.size:=hR1.lt;clear hb hR1 hsr hck hok hbH HRD hHo
 by_cases hc : c = 0
 rotate_left
 ·have hc' : (c == 0) = false:=by simpa using hc
  have hbu : Bu fs off c ab none:=by unfold Bu;rw [if_neg (zu HLG)];exact ⟨c,ab,zu HCK,.inl ⟨hc,rfl,rfl,rfl⟩⟩
  have HD:=hide hbu;clear hbu
  have hE : RoAns u n cu fs off w (.returned (.tuple #[.agg #[.slice u n cu,.map (some b),.slice ua n3 c3,.slice ub n4 c4],.int .i64 c,.slice us ab.length cs])) ((W1.alloc (.cells #[.slice u n cu,.map (some b),.slice ua n3 c3,.slice ub n4 c4] 135)).setRow w.heap.size [Value.slice u n cu,.map (some b),.slice ua n3 c3,.slice ub n4 c4].toArray):=by
   refine ⟨⟨_,_,_,_,_,_,ab,rfl,?_,zu HOL,.inl ⟨hc,zu HD⟩⟩,bel_row (zu HB2) (Nat.le_refl _) _⟩;exact ((zu HS2).row _ (by simp)).mono (by simp)
  have HE:=hide hE;clear hE hc
  go_wp2_with (first | refine wpl_putNew rfl 135 _ _ rfl W1 _ #[.slice u n cu,.map (some b),.slice ua n3 c3,.slice ub n4 c4] 135 rfl rfl (zu HI) rfl (zu HO) ?_ | refine wpl_storeRow rfl 135 _ _ rfl w.heap.size [.slice u n cu,.map (some b),.slice ua n3 c3,.slice ub n4 c4] rfl rfl 135 _ (zu HR2) (zu HI) rfl (zu HOL) ?_)
  have h4:=vb_row (zu HR2) [.slice u n cu,.map (some b),.slice ua n3 c3,.slice ub n4 c4];have z0:=h4.cell (m:=0) rfl;have z1:=h4.cell (m:=1) rfl;have z2:=h4.cell (m:=2) rfl;have z3:=h4.cell (m:=3) rfl;clear h4;refine bodyPost_ret (v:=.tuple #[.agg #[.slice u n cu,.map (some b),.slice ua n3 c3,.slice ub n4 c4],.int .i64 c,.slice us ab.length cs]) (by simp [results,Tryz.results83,go_sem,z0,z1,z2,z3];done) rfl ?_;exact zu HE
 subst hc;obtain ⟨hfine,rfl⟩:=(zu HCK).zero;obtain ⟨hmo,hbb,⟨N,hN,hhb⟩,hrw⟩:=zu HOK rfl;have hnm:=hhb.nmS;have hon : (ord (nms fs)).length = n:=by rw [hfine.all];exact zu HL
 obtain ⟨uq,cq,e1,hna⟩:=hnm;have e1':=e1
 injection e1' with e2 e3 e4
 subst e2;rw [nms_len,zu HL] at e3;have e3s:=e3.symm;subst e3s;have hin:=Row.inn hrw;obtain ⟨uz,cz,e5,_⟩:=id hin;have e5':=e5
 injection e5' with e6 e7 e8
 rw [hon] at e7;have e7s:=e7.symm;subst e7s;have hbH:=ba (bfl W1.heap.size W1) (.cells #[.slice u n cu,.map (some b),.slice ua n c3,.slice ub n c4] 135);have HM2:=hide (hmo.bel hbH);have HA2:=hide (hhb.bel hbH);have HN2:=hide (show w.heap.size + 1 ≤ N by have:=hN;simp at this;exact this);have HR5:=hide (own_bel (w':=W1.alloc (.cells #[.slice u n cu,.map (some b),.slice ua n c3,.slice ub n c4] 135)) hrw hbH);have HB5:=hide (show w.heap.size + 1 ≤ b by have:=hbb;simp at this;exact this);have HI2:=hide (hin.bel hbH);have HSO:=hide ((zu HST).bel (zu HB2))
 have HF:=hide hfine;clear hfine hmo hbb hna hhb hN hrw hon hin e1 e4 e5 e6 e8 hbH
 go_wp2_with (refine wpl_putNew rfl 135 _ _ rfl W1 _ #[.slice u n cu,.map (some b),.slice ua n c3,.slice ub n c4] 135 rfl rfl (zu HI) rfl (zu HO) ?_)
 generalize hW2 : W1.alloc (.cells #[.slice u n cu,.map (some b),.slice ua n c3,.slice ub n c4] 135) = W2 at *;have hsz2 : W1.heap.size < W2.heap.size:=by rw [← hW2,World.size_alloc];omega
 clear hW2
 go_loopw [31] (fun s W => ∃ i : Nat,s = .int .i64 (i : Int) ∧ i ≤ mf ∧ (∀ (j : Nat) (t : ByteArray),j < i → off[j]? = some t → findN fs t ≠ none) ∧ W = W2) (fun s _ => mf - (intOf s).toNat)
 case atStart => exact ⟨0,rfl,Nat.zero_le _,fun j t h => absurd h (Nat.not_lt_zero _),rfl⟩
 case round =>
  obtain ⟨i,rfl,hi,hall,hw⟩:=hrel;subst hw;have HALL:=hide hall;clear hall
  by_cases h : i < mf
  ·have iz : decide ((i : Int) < (mf : Int)) = true:=dt (by omega)
   have i1 : (i : Int) < (mf : Int):=by omega
   have i0 : (0 : Int) ≤ (i : Int):=Int.natCast_nonneg _;have wi : IntKind.i64.wrap ((i : Int) + 1) = ((i + 1 : Nat) : Int):=(wrap_i (by omega) (by omega)).trans (by simp);obtain ⟨s,hx⟩:=get_some (zu HOF) h
   obtain ⟨fo,oo,rfl,_,hcs⟩:=(zu HSO) (by intro e;subst e;cases hx)
   have q0:=hcs i s hx;have HX:=hide hx;have hlk:=(zu HM2).look (by rw [zu HL];exact Nat.le_refl _) (fun j g _ hg => twi_none' (zu HF).once j g hg) s (zu HOS s (List.mem_of_getElem? hx));rw [List.take_of_length_le (by rw [zu HL];exact Nat.le_refl _)] at hlk;clear hcs hx
   cases hq : findN fs s with
   | some q =>
    rw [hq] at hlk;simp only [Option.isSome_some] at hlk;have HQ:=hide (show findN fs s ≠ none by rw [hq];simp);clear hq;go_wp2_with fail;go_roundw
    case rel =>
     refine ⟨i + 1,by simp,h,fun j t hj ht => ?_,by first | rfl | trivial⟩
     by_cases e : j = i
     ·subst e
      rw [zu HX] at ht
      cases ht
      exact zu HQ
     ·exact zu HALL j t (by omega) ht
    case measure => simp only [intOf];omega
   | none =>
    rw [hq] at hlk;simp only [Option.isSome_none] at hlk;have hbu : Bu fs off 6 [s] none:=by unfold Bu;rw [if_neg (zu HLG)];exact ⟨0,[],zu HCK,.inr ⟨rfl,.inl ⟨i,s,zu HX,hq,zu HALL,rfl,rfl,rfl⟩⟩⟩
    have HD:=hide hbu;clear hq hbu;have HR3:=hide ((zu HR2).bel (ba (bfl _ _) (.cells #[.string s] 9)))
    have hE : RoAns u n cu fs off w (.returned (.tuple #[.agg #[.slice u n cu,.map (some b),.slice ua n c3,.slice ub n c4],.int .i64 6,.slice (some ⟨wr.heap.size,0,none⟩) 1 1])) ((wr.alloc (.cells #[.string s] 9)).setRow w.heap.size [Value.slice u n cu,.map (some b),.slice ua n c3,.slice ub n c4].toArray):=by
     refine ⟨⟨_,_,_,_,_,_,[s],rfl,?_,zu HOL,.inl ⟨by decide,zu HD⟩⟩,bel_row (ba (zu HB2) _) (Nat.le_refl _) _⟩;refine (SRow.row (B:=wr.heap.size) ?_ _ (by omega)).mono (by omega);exact vb.srow (l:=[s]) (vb_new wr 9 (strs [s]) _ rfl) (Nat.le_refl _) (by simp)
    have HE:=hide hE;clear hE
    go_wp2_with (refine wpl_storeRow rfl 135 _ _ rfl w.heap.size [.slice u n cu,.map (some b),.slice ua n c3,.slice ub n c4] rfl rfl 135 _ (zu HR3) (zu HI) rfl (zu HOL) ?_)
    have h4:=vb_row (zu HR3) [.slice u n cu,.map (some b),.slice ua n c3,.slice ub n c4];have z0:=h4.cell (m:=0) rfl;have z1:=h4.cell (m:=1) rfl;have z2:=h4.cell (m:=2) rfl;have z3:=h4.cell (m:=3) rfl;clear h4;refine bodyPost_ret (v:=.tuple #[.agg #[.slice u n cu,.map (some b),.slice ua n c3,.slice ub n c4],.int .i64 6,.slice (some ⟨wr.heap.size,0,none⟩) 1 1]) (by simp [results,Tryz.results83,go_sem,z0,z1,z2,z3];done) rfl ?_;exact zu HE
  ·obtain rfl : mf = i:=by omega
   have iz : decide ((mf : Int) < (mf : Int)) = false:=df (by omega)
   have hallo : ∀ s ∈ off,findN fs s ≠ none:=by
    intro s hs;obtain ⟨j,hj,rfl⟩:=List.getElem_of_mem hs;exact zu HALL j _ (by have:=zu HOF;omega) (List.getElem?_eq_getElem hj)
   have hE : RoAns u n cu fs off w (.returned (.tuple #[.agg #[.slice u n cu,.map (some b),.slice ua n c3,.slice ub n c4],.int .i64 0,.slice none 0 0])) (wr.setRow w.heap.size [Value.slice u n cu,.map (some b),.slice ua n c3,.slice ub n c4].toArray):=by
    refine ⟨⟨_,_,_,_,_,_,[],rfl,own_nil _ _ _ _,zu HOL,.inr ⟨rfl,rfl,zu HLG,zu HCK,hallo,b,ua,c3,ub,c4,rfl,rfl,rfl,rfl,?_,?_,?_⟩⟩,bel_row (zu HB2) (Nat.le_refl _) _⟩
    ·exact (zu HM2).blk (row_ne _ _ (by have:=zu HB5;omega))
    ·have hx:=(zu HA2).blk (w':=wr.setRow w.heap.size [Value.slice u n cu,.map (some b),.slice ua n c3,.slice ub n c4].toArray) (by simp [World.setRow]) (fun g hg => row_ne _ _ (by have:=zu HN2;omega))
     obtain ⟨uy,cy,ey,hy⟩:=hx.nmS
     injection ey with ey1
     rw [← ey1] at hy;exact hy
    ·have hx:=own_kept (zu HR5) (w':=wr.setRow w.heap.size [Value.slice u n cu,.map (some b),.slice ua n c3,.slice ub n c4].toArray) (fun g hg => row_ne _ _ (by have:=(own_ge (zu HR5) g hg).1;simp at this;omega))
     exact Row.inn hx
   have HE:=hide hE;clear hE hallo
   go_wp2_with (refine wpl_storeRow rfl 135 _ _ rfl w.heap.size [.slice u n cu,.map (some b),.slice ua n c3,.slice ub n c4] rfl rfl 135 _ (zu HR2) (zu HI) rfl (zu HOL) ?_)
   have h4:=vb_row (zu HR2) [.slice u n cu,.map (some b),.slice ua n c3,.slice ub n c4];have z0:=h4.cell (m:=0) rfl;have z1:=h4.cell (m:=1) rfl;have z2:=h4.cell (m:=2) rfl;have z3:=h4.cell (m:=3) rfl;clear h4;refine bodyPost_ret (v:=.tuple #[.agg #[.slice u n cu,.map (some b),.slice ua n c3,.slice ub n c4],.int .i64 0,.slice none 0 0]) (by simp [results,Tryz.results83,go_sem,z0,z1,z2,z3];done) rfl ?_;exact zu HE
theorem left_lf {fs : List Ft} {off : List ByteArray} (hF : Fine fs) (hall : ∀ s ∈ off,findN fs s ≠ none) {k : Nat} (hk : k < fs.length) :
  (lft (nms fs) (sdN fs off) (ord (nms fs))).contains k = lf fs off k:=by
 have hsd : ∀ q,q < (nms fs).length → (sdN fs off).contains q = sdB fs off q:=by
  intro q hq;rw [nms_len] at hq;have hx : fs[q]? = some fs[q]:=List.getElem?_eq_getElem hq;have hg : fs.getD q ft0 = fs[q]:=getD_at hx;unfold sdB;rw [hg,Bool.eq_iff_iff];constructor
  ·intro h
   unfold sdN at h;rw [List.contains_iff_mem,List.mem_map] at h;obtain ⟨s,hs,e⟩:=h
   cases hn : findN fs s with
   | none => exact (hall s hs hn).elim
   | some j =>
    rw [hn,Option.getD_some] at e;subst e;obtain ⟨g,h1,h2⟩:=findN_at hn;rw [hx] at h1
    cases h1
    obtain ⟨i,hi,rfl⟩:=List.getElem_of_mem hs;refine hasT_yes (List.getElem?_eq_getElem hi) ?_;rw [h2];exact sEq_refl _
  ·intro h
   unfold hasT at h;rw [List.any_eq_true] at h;obtain ⟨s,hs,e⟩:=h;unfold sdN;rw [List.contains_iff_mem,List.mem_map];refine ⟨s,hs,?_⟩
   cases hn : findN fs s with
   | none => exact (hall s hs hn).elim
   | some j =>
    obtain ⟨g,h1,h2⟩:=findN_at hn;rw [Option.getD_some];exact hF.uniq h1 hx (h2.trans (sEq_iff.1 e))
 obtain ⟨_,h2,_,_⟩:=marks_one hF.one (sdN fs off) (sdB fs off) hsd (nms fs).length
 have hmem : k ∈ wo (nms fs) (nms fs).length:=by
  have hall : ∀ q,q < (nms fs).length → q ∈ ord (nms fs):=by
   intro q hq
   by_cases e : q ∈ ord (nms fs)
   ·exact e
   ·exfalso
    have h1 : (q :: ord (nms fs)).Nodup:=List.nodup_cons.2 ⟨e,wo_nodup (nms fs) _⟩
    have h2:=nodup_len _ (nms fs).length h1 (fun i hi => by
     rcases List.mem_cons.1 hi with rfl | hi
     ·exact hq
     ·exact wo_lt (nms fs) _ i hi)
    have h3:=hF.all;rw [nms_len] at h2;rw [List.length_cons] at h2;omega
  exact hall k (by rw [nms_len];exact hk)
 exact h2 k hmem
def BuP (fs : List Ft) (off : List ByteArray) (w : World) (e : Ending) (w' : World) : Prop :=
 (∃ c ab D v v3,e = .returned (.tuple #[v,.int .i64 c,v3]) ∧ Bu fs off c ab D ∧ SRow w' w.heap.size v3 ab ∧
  (∀ D',D = some D' → Fine fs ∧ Okd fs D' ∧ D'.done.length ≤ 30 ∧ ∃ g gc bm cap N vd vw ws,v = .pointer (some ⟨g,0,none⟩) ∧ Pdm w' N fs g gc bm cap vd vw ws D' ∧ cap ≤ 30 ∧ (w.heap.size ≤ g ∧ w.heap.size ≤ gc ∧ w.heap.size ≤ bm) ∧ (g < N ∧ gc < N ∧ bm < N ∧ N ≤ w'.heap.size) ∧ g ≠ gc ∧ g ≠ bm ∧ gc ≠ bm)) ∧ Below w.heap.size w w'
theorem buildP_any (u : Option Addr) (p po n cu : Nat) (fs : List Ft) (uf : Option Addr) (mf cf : Nat) (off : List ByteArray) (w : World) (hl : fs.length = n) (hn : n ≤ 1048576) (hs : ∀ f ∈ fs,f.nm.size ≤ maxLen ∧ f.on.size ≤ maxLen ∧ f.ov.size ≤ maxLen) (hu : SlG ftc 15 w u p po fs)
  (hof : off.length = mf) (hmf : mf ≤ 1048576) (hos : ∀ s ∈ off,s.size ≤ maxLen) (hst : StAt w uf off) :
  Calls Tryz.prog 47 #[.slice u n cu,.slice uf mf cf] w (BuP fs off w):=by
 have HRO:=hide (readOff_any u p po n cu fs uf mf cf off w hl hn hs hu hof hmf hos hst);have HL:=hide hl;have HS:=hide hs;have HU:=hide hu;have HOF:=hide hof;have HOS:=hide hos;have HST:=hide hst;clear hl hs hu hof hos hst;go_enter Tryz.func47,Tryz.ntmps47;go_wp2_with fail;refine (zu HRO).mono ?_;rintro e W1 ⟨⟨h0,h1,h2,h3,c,v3,ab,rfl,hsr,hone,hok⟩,hb⟩;have HB:=hide hb;obtain ⟨us,cs,rfl,_⟩:=own_form hsr
 have hHo : (#[h0,h1,h2,h3] : Array Value).all (·.oneCell') = true:=by
  rw [← Array.all_toList,List.all_eq_true];exact hone
 have HO:=hide hHo;have HI:=hide info135;have HVH:=hide (vb_new W1 135 [h0,h1,h2,h3] _ rfl);have hbH:=ba (bfl W1.heap.size W1) (.cells #[h0,h1,h2,h3] 135);have HB2:=hide (bc hb hbH);have HS2:=hide (hsr.bel hbH);have HBH:=hide hbH
 rcases hok with ⟨hc,hbu⟩ | ⟨rfl,rfl,hlg,hck,hall,b,ua,c3,ub,c4,rfl,rfl,rfl,rfl,hmo,hna,hin⟩
 ·have hc' : (c == 0) = false:=by simpa using hc
  have HE:=hide (show BuP fs off w (.returned (.tuple #[.pointer none,.int .i64 c,.slice us ab.length cs])) (W1.alloc (.cells #[h0,h1,h2,h3] 135)) from ⟨⟨c,ab,none,_,_,rfl,hbu,zu HS2,fun _ e => by cases e⟩,zu HB2⟩);clear hc hbu hb hsr hone hHo hbH
  go_wp2_with (refine wpl_putNew rfl 135 _ _ rfl W1 _ #[h0,h1,h2,h3] 135 rfl rfl (zu HI) rfl (zu HO) ?_)
  refine bodyPost_ret (v:=.tuple #[.pointer none,.int .i64 c,.slice us ab.length cs]) (by simp [results,Tryz.results47,go_sem];done) rfl ?_;exact zu HE
 ·have hfine:=hck.zero.1
  have HF:=hide hfine;have HCK:=hide hck;have HLG:=hide hlg;have HALL:=hide hall;have HMO:=hide hmo;have HNA:=hide hna;have HIN:=hide hin;have HBB:=hide hb;clear hb hsr hone hHo hbH hfine hck hlg hall hmo hna hin
  go_upto_region 4 with (refine wpl_putNew rfl 135 _ _ rfl W1 _ #[.slice u n cu,.map (some b),.slice ua n c3,.slice ub n c4] 135 rfl rfl (zu HI) rfl (zu HO) ?_)
  refine Go.Code.wp_mono (Only.to (fun _ _ h => h)) (bd4 (n:=n) (B:=W1.heap.size) (M:=lft (nms fs) (sdN fs off) (ord (nms fs))) (fs:=fs) (off:=off) (hide ((zu HVH).cell (m:=0) rfl)) (hide ((zu HVH).cell (m:=1) rfl)) (hide ((zu HVH).cell (m:=2) rfl)) (hide ((zu HVH).cell (m:=3) rfl)) (hide fun Xw hX => ?_) (hide fun vl Xw hX hlv => ?_) ?_)
  ·have hbX:=(zu HBH).trans (hX.mono (zu HBH).size)
   refine (leftP_any u ua ub uf n cu b c3 c4 cf mf fs off Xw (zu HL) (zu HF) ((zu HMO).bel hbX) ((zu HNA).bel hbX) ((zu HIN).bel hbX) (zu HOF) hmf (fun s hs => ⟨zu HOS s hs,by
    cases hq : findN fs s with
    | none => exact (zu HALL s hs hq).elim
    | some q => exact ⟨q,rfl⟩⟩) ((zu HST).bel ((zu HB).trans (hbX.mono (zu HB).size)))).mono ?_
   rintro e w' ⟨⟨g,rfl,_,hv⟩,hb9⟩;exact ⟨⟨_,rfl,g,rfl,hv⟩,hb9⟩
  ·obtain ⟨gl,rfl,hv⟩:=hlv
   have hbX:=(zu HBH).trans (hX.mono (zu HBH).size);refine (bodyP_any u ua ub p po n cu n c3 c4 b gl n fs off _ Xw (zu HL) (zu HF) (zu HS) ((zu HU).bel ((zu HB).trans (hbX.mono (zu HB).size))) ((zu HIN).bel hbX) hv (fun k hk => left_lf (zu HF) (zu HALL) (by rw [zu HL];exact hk))).mono ?_;rintro e w' ⟨⟨v,rfl,hv9⟩,hb9⟩;exact ⟨⟨v,by rw [← hv9.tup],hv9.mono (by have:=hbX.size;omega)⟩,hb9⟩
  ·intro vl va W2 hb4 hlf hbv
   have HBV:=hide hbv;have HB4:=hide (bc (zu HB2) hb4);clear hbv hb4 hlf;go_wp2_with fail;refine bodyPost_ret (v:=.tuple #[nth va 0,nth va 1,nth va 2]) (by simp [results,Tryz.results47,go_sem];done) rfl ?_;have hbv:=zu HBV;unfold BpV at hbv;refine ⟨?_,zu HB4⟩;have hw1:=(zu HB).size
   split at hbv
   ·rename_i x hx
    obtain ⟨v9,rfl,hs9⟩:=hbv;refine ⟨x.1,x.2,none,.pointer none,v9,rfl,?_,hs9.mono hw1,fun _ e => by cases e⟩;unfold Bu;rw [if_neg (zu HLG)];exact ⟨0,[],zu HCK,.inr ⟨rfl,.inr ⟨zu HALL,.inl ⟨x,hx,rfl,rfl,rfl⟩⟩⟩⟩
   ·rename_i D hD
    obtain ⟨h1,h2,g,gc,bm,cap,N,vd,vw,ws,rfl,hP,hc,⟨b1,b2,b3⟩,hl9⟩:=hbv;refine ⟨0,[],some D,.pointer (some ⟨g,0,none⟩),.slice none 0 0,rfl,?_,own_nil _ _ _ _,fun D' e => ?_⟩
    ·unfold Bu
     rw [if_neg (zu HLG)];exact ⟨0,[],zu HCK,.inr ⟨rfl,.inr ⟨zu HALL,.inr ⟨D,hD,rfl,rfl,rfl⟩⟩⟩⟩
    ·cases e
     exact ⟨zu HF,h1,h2,g,gc,bm,cap,N,vd,vw,ws,rfl,hP,hc,⟨by omega,by omega,by omega⟩,hl9⟩
open Go.ChangeShapes Go.WideShapes Go.ChangeAt Go.RowKit
def zFc : List Value:=[.string ⟨#[]⟩,.int .i64 0,.int .i64 0,.int .i64 0,.int .i64 0,.int .i64 0,.int .i64 0,.int .i64 0,.int .i64 0,.int .i64 0]
def rFc (nm : ByteArray) (s a n b0 b1 b2 b3 b4 b5 : Int) : List Value:=[.string nm,.int .i64 s,.int .i64 a,.int .i64 n,.int .i64 b0,.int .i64 b1,.int .i64 b2,.int .i64 b3,.int .i64 b4,.int .i64 b5]
theorem rFc_one (nm : ByteArray) (s a n b0 b1 b2 b3 b4 b5 : Int) : ∀ v ∈ rFc nm s a n b0 b1 b2 b3 b4 b5,v.oneCell' = true:=by
 intro v hv;unfold rFc at hv;simp only [List.mem_cons,List.not_mem_nil,or_false] at hv
 rcases hv with rfl | rfl | rfl | rfl | rfl | rfl | rfl | rfl | rfl | rfl <;> rfl
theorem size43 : (Tryz.prog.info? 43).map (·.size) = some 10:=by kernel_rfl
theorem faceOfP_any (u : Option Addr) (p po n cu : Nat) (fs : List Ft) (uf : Option Addr) (mf cf : Nat) (off : List ByteArray) (nm : ByteArray) (side : Int) (w : World) (hl : fs.length = n) (hn : n ≤ 1048576) (hs : ∀ f ∈ fs,f.nm.size ≤ maxLen ∧ f.on.size ≤ maxLen ∧ f.ov.size ≤ maxLen) (hu : SlG ftc 15 w u p po fs)
  (hof : off.length = mf) (hmf : mf ≤ 1048576) (hos : ∀ s ∈ off,s.size ≤ maxLen) (hst : StAt w uf off) (hnm : nm.size ≤ maxLen) :
  Calls Tryz.prog 24 #[.slice u n cu,.slice uf mf cf,.string nm,.int .i64 side] w fun e w' => (∃ v c,e = .returned (.tuple #[v,.int .i64 c]) ∧ FaAns fs off nm side c v) ∧ Below w.heap.size w w':=by
 have hbA:=ba (bfl w.heap.size w) (.cells zFc.toArray 43);have HBU:=hide (buildP_any u p po n cu fs uf mf cf off _ hl hn hs (hu.bel hbA) hof hmf hos (hst.bel hbA));have HR0:=hide (vb_new w 43 zFc _ rfl);have HBA:=hide hbA;have HI:=hide size43;have HO:=hide (rFc_one ⟨#[]⟩ 0 0 0 0 0 0 0 0 0);have HNM:=hide hnm;clear hl hs hu hof hos hst hbA
 by_cases hlong : 65536 < nm.size
 ·have d1 : decide ((65536 : Int) < (nm.size : Int)) = true:=dt (by omega)
  have HA:=hide (show FaAns fs off nm side 2 (fcN ⟨#[]⟩ 0 0 0 bx0) by unfold FaAns;rw [if_pos hlong];exact ⟨rfl,rfl⟩);unfold zFc at HR0;clear hlong HBU;go_enter Tryz.func24,Tryz.ntmps24
  go_wp2_with (refine wpl_storeRow rfl 43 _ _ rfl w.heap.size (rFc ⟨#[]⟩ 0 0 0 0 0 0 0 0 0) rfl rfl 43 _ (zu HR0) (zu HI) rfl (zu HO) ?_)
  have h4:=vb_row (zu HR0) (rFc ⟨#[]⟩ 0 0 0 0 0 0 0 0 0);have z0:=h4.cell (m:=0) rfl;have z1:=h4.cell (m:=1) rfl;have z2:=h4.cell (m:=2) rfl;have z3:=h4.cell (m:=3) rfl;have z4:=h4.cell (m:=4) rfl;have z5:=h4.cell (m:=5) rfl;have z6:=h4.cell (m:=6) rfl;have z7:=h4.cell (m:=7) rfl;have z8:=h4.cell (m:=8) rfl;have z9:=h4.cell (m:=9) rfl
  have HB9:=hide (bel_row (ba (bfl w.heap.size w) (.cells #[.string ⟨#[]⟩,.int .i64 0,.int .i64 0,.int .i64 0,.int .i64 0,.int .i64 0,.int .i64 0,.int .i64 0,.int .i64 0,.int .i64 0] 43)) (Nat.le_refl _) (rFc ⟨#[]⟩ 0 0 0 0 0 0 0 0 0).toArray);clear h4;refine bodyPost_ret (v:=.tuple #[fcN ⟨#[]⟩ 0 0 0 bx0,.int .i64 2]) (by simp [results,Tryz.results24,go_sem,fcN,bx0,z0,z1,z2,z3,z4,z5,z6,z7,z8,z9];done) rfl ?_;exact ⟨⟨_,2,rfl,zu HA⟩,zu HB9⟩
 have d1 : decide ((65536 : Int) < (nm.size : Int)) = false:=df (by omega);have HLG:=hide hlong;unfold zFc at HR0 HBA HBU;clear hlong;go_enter Tryz.func24,Tryz.ntmps24;go_wp2_with fail;refine (zu HBU).mono ?_;rintro e W1 ⟨⟨c,ab,D,v,v3,rfl,hbu,hsr,hD⟩,hb⟩;have HR1:=hide ((zu HR0).bel hb);have HB:=hide (bc (zu HBA) hb);have HBQ:=hide hbu;have HDD:=hide hD;clear hb hbu hsr hD HBU HBA HR0
 by_cases hc : c = 0
 rotate_left
 ·have hc' : (c == 0) = false:=by simpa using hc
  have HA:=hide (show FaAns fs off nm side c (fcN ⟨#[]⟩ 0 0 0 bx0) by unfold FaAns;rw [if_neg (zu HLG)];exact ⟨c,ab,D,zu HBQ,.inl ⟨hc,rfl,rfl⟩⟩);clear hc HDD
  go_wp2_with (refine wpl_storeRow rfl 43 _ _ rfl w.heap.size (rFc ⟨#[]⟩ 0 0 0 0 0 0 0 0 0) rfl rfl 43 _ (zu HR1) (zu HI) rfl (zu HO) ?_)
  have h4:=vb_row (zu HR1) (rFc ⟨#[]⟩ 0 0 0 0 0 0 0 0 0);have z0:=h4.cell (m:=0) rfl;have z1:=h4.cell (m:=1) rfl;have z2:=h4.cell (m:=2) rfl;have z3:=h4.cell (m:=3) rfl;have z4:=h4.cell (m:=4) rfl;have z5:=h4.cell (m:=5) rfl;have z6:=h4.cell (m:=6) rfl;have z7:=h4.cell (m:=7) rfl;have z8:=h4.cell (m:=8) rfl;have z9:=h4.cell (m:=9) rfl;have HB9:=hide (bel_row (zu HB) (Nat.le_refl _) (rFc ⟨#[]⟩ 0 0 0 0 0 0 0 0 0).toArray);clear h4
  refine bodyPost_ret (v:=.tuple #[fcN ⟨#[]⟩ 0 0 0 bx0,.int .i64 c]) (by simp [results,Tryz.results24,go_sem,fcN,bx0,z0,z1,z2,z3,z4,z5,z6,z7,z8,z9];done) rfl ?_;exact ⟨⟨_,c,rfl,zu HA⟩,zu HB9⟩
 subst hc;obtain ⟨D',hD'⟩:=(zu HBQ).zero;obtain ⟨hF,hok,hdl,g,gc,bm,cap,N,vd,vw,ws,rfl,hpd,hcp,hge,hlt,hne⟩:=zu HDD D' hD'
 have hfa : FaAns fs off nm side (if faL fs D' nm side = [] then 8 else 0) (if faL fs D' nm side = [] then fcN ⟨#[]⟩ 0 0 0 bx0 else fcN nm side ((faL fs D' nm side).length : Int) ((pcsL (faL fs D' nm side) : Nat) : Int) (hul (faL fs D' nm side))):=by
  unfold FaAns;rw [if_neg (zu HLG)];refine ⟨0,ab,D,zu HBQ,.inr ⟨rfl,D',hD',?_⟩⟩
  by_cases e : faL fs D' nm side = []
  ·rw [if_pos e,if_pos e];exact .inl ⟨e,rfl,rfl⟩
  ·rw [if_neg e,if_neg e];exact .inr ⟨e,rfl,rfl⟩
 have HFA:=hide hfa;have htl : tlds fs D' = sqPs D'.cs 13824:=sqPs_tld hok.iv 13824 (Nat.le_refl _)
 obtain ⟨nb,hnb⟩ : ∃ k,byOf fs D'.done nm = k:=⟨_,rfl⟩
 obtain ⟨lf,hlf⟩ : ∃ l,faL fs D' nm side = l:=⟨_,rfl⟩
 have hlf2 : ofI (sqPs D'.cs 13824) nb side = lf:=by rw [← htl,← hnb];exact hlf
 have hin : ∀ b ∈ lf,∃ q ∈ tlds fs D',q.nb = nb ∧ (q.sd : Int) = side ∧ b = q.bx:=by
  intro b hb;rw [← hlf2,← htl] at hb;exact ofI_mem hb
 have hrange : lf ≠ [] → 1 ≤ side ∧ side ≤ 6:=by
  intro h0;obtain ⟨b,t,hbt⟩:=List.exists_cons_of_ne_nil h0;obtain ⟨q,hq,_,h2,_⟩:=hin b (by rw [hbt];simp);have:=tlds_nb hok hq;omega
 have hnd : lf.Nodup ∧ (lf ≠ [] → pcsL lf = pcs (tcP lf) lf.length lf.length):=by
  by_cases h0 : lf = []
  ·rw [h0];exact ⟨List.nodup_nil,fun h => (h rfl).elim⟩
  ·have hr:=hrange h0
   obtain ⟨k,rfl⟩ : ∃ k : Nat,side = (k : Int):=⟨side.toNat,by omega⟩
   have hfc : Fce D'.cs _ (ofO (tlds fs D') nb k):=face_of (by omega);rw [show ofO (tlds fs D') nb k = lf by rw [← hlf2,← htl,ofI_nat]] at hfc;exact ⟨hfc.nodup,fun _ => hfc.pieces⟩
 have hsm : ∀ b ∈ lf,bxS 1000 b:=by
  intro b hb;obtain ⟨q,hq,_,_,rfl⟩:=hin b hb;exact tlds_S fs D' q hq
 have hln : lf.length ≤ 100000:=by
  rw [← hlf2,← htl];unfold ofI;rw [List.length_map];exact Nat.le_trans (List.length_filter_le _ _) (tlds_len fs D')
 have HFP:=hide (faceI_any g gc bm cap vd vw fs D'.done D'.cs nm side nb lf W1 hpd.blk hpd.cel hpd.mp (zu HNM) hnb hlf2 hnd.1 hsm hln (fun h => by
  by_cases h0 : lf = []
  ·exact h0
  ·have:=hrange h0;omega))
 rw [hlf] at HFA;have HPC:=hide hnd.2;clear hF hok hdl hpd hcp hge hlt hne hfa htl hnb hlf hlf2 hin hrange hnd hsm hln HDD hD' HBQ
 by_cases h0 : lf = []
 ·rw [if_pos h0,if_pos h0] at HFA
  have hfc : fcI nm side lf = fcN ⟨#[]⟩ 0 0 0 bx0:=by unfold fcI;rw [if_pos h0]
  rw [hfc] at HFP;unfold fcN bx0 at HFP;simp only at HFP;clear hfc h0 HPC;go_wp2_with fail;refine (zu HFP).mono ?_;rintro e W2 ⟨rfl,hb2⟩;have hbF:=ba (bfl W2.heap.size W2) (.cells #[.string ⟨#[]⟩,.int .i64 0,.int .i64 0,.int .i64 0,.int .i64 0,.int .i64 0,.int .i64 0,.int .i64 0,.int .i64 0,.int .i64 0] 43);have HR2:=hide (((zu HR1).bel hb2).bel hbF);have HB2:=hide (bc (bc (zu HB) hb2) hbF);have HV:=hide (vb_new W2 43 [.string ⟨#[]⟩,.int .i64 0,.int .i64 0,.int .i64 0,.int .i64 0,.int .i64 0,.int .i64 0,.int .i64 0,.int .i64 0,.int .i64 0] _ rfl)
  have HO2 : Hid ((#[.string ⟨#[]⟩,.int .i64 0,.int .i64 0,.int .i64 0,.int .i64 0,.int .i64 0,.int .i64 0,.int .i64 0,.int .i64 0,.int .i64 0] : Array Value).all (·.oneCell') = true):=hide (by simp [Value.oneCell'])
  have v2:=(zu HV).cell (m:=2) rfl;clear hb2 hbF HFP
  go_wp2_with (first | refine wpl_putNew rfl 43 _ _ rfl W2 _ #[.string ⟨#[]⟩,.int .i64 0,.int .i64 0,.int .i64 0,.int .i64 0,.int .i64 0,.int .i64 0,.int .i64 0,.int .i64 0,.int .i64 0] 43 rfl rfl (zu HI) rfl (zu HO2) ?_ | refine wpl_storeRow rfl 43 _ _ rfl w.heap.size (rFc ⟨#[]⟩ 0 0 0 0 0 0 0 0 0) rfl rfl 43 _ (zu HR2) (zu HI) rfl (zu HO) ?_)
  have h4:=vb_row (zu HR2) (rFc ⟨#[]⟩ 0 0 0 0 0 0 0 0 0);have z0:=h4.cell (m:=0) rfl;have z1:=h4.cell (m:=1) rfl;have z2:=h4.cell (m:=2) rfl;have z3:=h4.cell (m:=3) rfl;have z4:=h4.cell (m:=4) rfl;have z5:=h4.cell (m:=5) rfl;have z6:=h4.cell (m:=6) rfl;have z7:=h4.cell (m:=7) rfl;have z8:=h4.cell (m:=8) rfl;have z9:=h4.cell (m:=9) rfl;have HB9:=hide (bel_row (zu HB2) (Nat.le_refl _) (rFc ⟨#[]⟩ 0 0 0 0 0 0 0 0 0).toArray);clear h4
  refine bodyPost_ret (v:=.tuple #[fcN ⟨#[]⟩ 0 0 0 bx0,.int .i64 8]) (by simp [results,Tryz.results24,go_sem,fcN,bx0,z0,z1,z2,z3,z4,z5,z6,z7,z8,z9];done) rfl ?_;exact ⟨⟨_,8,rfl,zu HFA⟩,zu HB9⟩
 ·rw [if_neg h0,if_neg h0] at HFA
  have hfc : fcI nm side lf = fcN nm side (lf.length : Int) ((pcs (tcP lf) lf.length lf.length : Nat) : Int) (hul lf):=by unfold fcI;rw [if_neg h0]
  rw [hfc,← zu HPC h0] at HFP
  obtain ⟨⟨b0,b1,b2,b3,b4,b5⟩,hhq⟩ : ∃ b,hul lf = b:=⟨_,rfl⟩
  obtain ⟨pq,hpq⟩ : ∃ b,pcsL lf = b:=⟨_,rfl⟩
  obtain ⟨ar,har⟩ : ∃ b,lf.length = b:=⟨_,rfl⟩
  have ha0 : ar ≠ 0:=fun e => h0 (List.eq_nil_of_length_eq_zero (har.trans e))
  have e0 : ((ar : Int) == 0) = false:=by simpa using ha0
  rw [hhq,hpq,har] at HFP HFA;unfold fcN at HFP;simp only at HFP;have HO3:=hide (rFc_one nm side (ar : Int) (pq : Int) b0 b1 b2 b3 b4 b5);clear hfc h0 HPC hhq hpq har ha0;go_wp2_with fail;refine (zu HFP).mono ?_;rintro e W2 ⟨rfl,hb2⟩;have hbF:=ba (bfl W2.heap.size W2) (.cells #[.string nm,.int .i64 side,.int .i64 (ar : Int),.int .i64 (pq : Int),.int .i64 b0,.int .i64 b1,.int .i64 b2,.int .i64 b3,.int .i64 b4,.int .i64 b5] 43);have HR2:=hide (((zu HR1).bel hb2).bel hbF);have HB2:=hide (bc (bc (zu HB) hb2) hbF)
  have HV:=hide (vb_new W2 43 [.string nm,.int .i64 side,.int .i64 (ar : Int),.int .i64 (pq : Int),.int .i64 b0,.int .i64 b1,.int .i64 b2,.int .i64 b3,.int .i64 b4,.int .i64 b5] _ rfl)
  have HO2 : Hid ((#[.string nm,.int .i64 side,.int .i64 (ar : Int),.int .i64 (pq : Int),.int .i64 b0,.int .i64 b1,.int .i64 b2,.int .i64 b3,.int .i64 b4,.int .i64 b5] : Array Value).all (·.oneCell') = true):=hide (by simp [Value.oneCell'])
  have v0:=(zu HV).cell (m:=0) rfl;have v1:=(zu HV).cell (m:=1) rfl;have v2:=(zu HV).cell (m:=2) rfl;have v3:=(zu HV).cell (m:=3) rfl;have v4:=(zu HV).cell (m:=4) rfl;have v5:=(zu HV).cell (m:=5) rfl;have v6:=(zu HV).cell (m:=6) rfl;have v7:=(zu HV).cell (m:=7) rfl;have v8:=(zu HV).cell (m:=8) rfl;have v9:=(zu HV).cell (m:=9) rfl;clear hb2 hbF HFP
  go_wp2_with (first | refine wpl_putNew rfl 43 _ _ rfl W2 _ #[.string nm,.int .i64 side,.int .i64 (ar : Int),.int .i64 (pq : Int),.int .i64 b0,.int .i64 b1,.int .i64 b2,.int .i64 b3,.int .i64 b4,.int .i64 b5] 43 rfl rfl (zu HI) rfl (zu HO2) ?_ | refine wpl_storeRow rfl 43 _ _ rfl w.heap.size (rFc nm side (ar : Int) (pq : Int) b0 b1 b2 b3 b4 b5) rfl rfl 43 _ (zu HR2) (zu HI) rfl (zu HO3) ?_)
  have h4:=vb_row (zu HR2) (rFc nm side (ar : Int) (pq : Int) b0 b1 b2 b3 b4 b5);have z0:=h4.cell (m:=0) rfl;have z1:=h4.cell (m:=1) rfl;have z2:=h4.cell (m:=2) rfl;have z3:=h4.cell (m:=3) rfl;have z4:=h4.cell (m:=4) rfl;have z5:=h4.cell (m:=5) rfl;have z6:=h4.cell (m:=6) rfl;have z7:=h4.cell (m:=7) rfl;have z8:=h4.cell (m:=8) rfl;have z9:=h4.cell (m:=9) rfl;have HB9:=hide (bel_row (zu HB2) (Nat.le_refl _) (rFc nm side (ar : Int) (pq : Int) b0 b1 b2 b3 b4 b5).toArray);clear h4
  refine bodyPost_ret (v:=.tuple #[fcN nm side (ar : Int) (pq : Int) ⟨b0,b1,b2,b3,b4,b5⟩,.int .i64 0]) (by simp [results,Tryz.results24,go_sem,fcN,z0,z1,z2,z3,z4,z5,z6,z7,z8,z9];done) rfl ?_;exact ⟨⟨_,0,rfl,zu HFA⟩,zu HB9⟩
end Go.Proofs.YtkiplmabjeadgaaGreat
