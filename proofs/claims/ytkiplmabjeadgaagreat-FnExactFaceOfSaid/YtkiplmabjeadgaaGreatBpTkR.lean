/- The program takes a piece. -/
import Derived.Test.YtkiplmabjeadgaaGreatBxKeyR
import Derived.Test.YtkiplmabjeadgaaGreatBpR3R
namespace Go.Proofs.YtkiplmabjeadgaaGreat
set_option maxRecDepth 100000
set_option maxHeartbeats 16000000
open Go.ChangeShapes Go.WideShapes Go.ChangeAt Go.RowKit Go.Maps Go.WideMaps
set_option linter.unusedVariables false
set_option linter.unusedSimpArgs false
theorem movedP_any (b : Bx) (x y z : Int) (w : World) (hb : bxS 100000 b) (hx : -1000 ≤ x ∧ x ≤ 1000) (hy : -1000 ≤ y ∧ y ≤ 1000) (hz : -1000 ≤ z ∧ z ≤ 1000) : Calls Tryz.prog 190 #[bxv b,plv x y z] w fun e w' => e = .returned (bxv (mvB b x y z)) ∧ Below w.heap.size w w':=by
 obtain ⟨x0,y0,z0,x1,y1,z1⟩:=b;obtain ⟨h1,h2,h3,h4,h5,h6⟩:=hb;simp only at h1 h2 h3 h4 h5 h6;have w1 : IntKind.i64.wrap (x0 + x) = x0 + x:=wrap_i (by omega) (by omega);have w2 : IntKind.i64.wrap (y0 + y) = y0 + y:=wrap_i (by omega) (by omega);have w3 : IntKind.i64.wrap (z0 + z) = z0 + z:=wrap_i (by omega) (by omega);have w4 : IntKind.i64.wrap (x1 + x) = x1 + x:=wrap_i (by omega) (by omega);have w5 : IntKind.i64.wrap (y1 + y) = y1 + y:=wrap_i (by omega) (by omega);have w6 : IntKind.i64.wrap (z1 + z) = z1 + z:=wrap_i (by omega) (by omega);clear h1 h2 h3 h4 h5 h6 hx hy hz
 unfold bxv plv mvB;simp only;go_enter Tryz.func190,Tryz.ntmps190;go_wp2_with fail;refine bodyPost_ret (v:=.agg #[.int .i64 (x0 + x),.int .i64 (y0 + y),.int .i64 (z0 + z),.int .i64 (x1 + x),.int .i64 (y1 + y),.int .i64 (z1 + z)]) (by simp [results,Tryz.results190,go_sem];done) rfl ?_;refine ⟨rfl,?_⟩
 repeat (first | exact bfl _ _ | refine Below.setCell ?_ (Nat.le_refl _) _ | refine Below.setCell ?_ (by simp) _ | refine ba ?_ _)
structure Tm (g : Nat) (w w' : World) : Prop where
 os : w'.os = w.os
 tape : w'.tape = w.tape
 output : w'.output = w.output
 size : w.heap.size ≤ w'.heap.size
 block : ∀ k,k < w.heap.size → k ≠ g → w'.heap[k]? = w.heap[k]?
theorem Tm.refl (g : Nat) (w : World) : Tm g w w:=⟨rfl,rfl,rfl,Nat.le_refl _,fun _ _ _ => rfl⟩
theorem Tm.trans {g : Nat} {a b c : World} (x : Tm g a b) (y : Tm g b c) : Tm g a c :=
  ⟨y.os.trans x.os,y.tape.trans x.tape,y.output.trans x.output,Nat.le_trans x.size y.size,fun k hk h1 => (y.block k (Nat.lt_of_lt_of_le hk x.size) h1).trans (x.block k hk h1)⟩
theorem Tm.of_bel {g : Nat} {w w' : World} (hb : Below w.heap.size w w') : Tm g w w':=⟨hb.os,hb.tape,hb.output,hb.size,fun k hk _ => hb.block k hk⟩
theorem Tm.turned {g : Nat} {w w' : World} (h : w.mapTurned w' g) : Tm g w w':=by
 have g1:=h.grown;exact ⟨g1.os,g1.tape,g1.output,g1.size,fun k hk h1 => g1.block k hk (fun e => h1 (by injection e))⟩
theorem Tm.vb {g : Nat} {w w' : World} {b t : Nat} {L : List Value} (x : Tm g w w') (hv : vb w b t L) (h1 : b ≠ g) : vb w' b t L:=(x.block b hv.lt h1).trans hv
theorem Tm.own {g : Nat} {w w' : World} {B t k n : Nat} {v : Value} {L : List Value} (x : Tm g w w') (h : w.ownsRow B t k v n L) (h1 : g < B) : w'.ownsRow B t k v n L :=
 own_kept h fun j hj => x.block j (own_ge h j hj).2 (by have:=(own_ge h j hj).1;omega)
def bxl (l : List Bx) (rs : List Nat) : List Bx:=rs.map fun k => l.getD k bx0
theorem bxl_at {l : List Bx} {rs : List Nat} {j a : Nat} (h : rs[j]? = some a) : (bxl l rs)[j]? = some (l.getD a bx0):=by simp [bxl,h]
theorem takeP_any (l : List Bx) (n bm cap i : Nat) (b : Bx) (S : Nat → Bool) (w : World) (hl : l.length = n) (hn : n ≤ 100000) (hnd : l.Nodup) (hsm : ∀ b ∈ l,bxS 1000 b) (hi : l[i]? = some b) (hs : ∀ k,k < n → (S k = true ↔ Sn (tcP l) n i k)) (hsi : S i = false) (hm : MpS w bm cap (lfS l S)) :
  Calls Tryz.prog 164 #[.map (some bm),bxv b] w fun e w' => (∃ r,e = .returned r) ∧ (∃ S',(∀ k,k < n → (S' k = true ↔ Sn (tcP l) n (i + 1) k)) ∧ MpS w' bm cap (lfS l S')) ∧ Tm bm w w':=by
 have hin : i < n:=by have:=(List.getElem?_eq_some_iff.1 hi).1;omega
 obtain ⟨iT,ht,ht0,ht1,ht2⟩:=info_parts info65;have HWK:=hide (Walk.start hin hs);have HUN:=hide (uns_push hsi hin);have HUL:=hide (uns_le n S);have HL:=hide hl;have HND:=hide hnd;have HSM:=hide hsm;have HI:=hide hi;have hb:=hsm b (List.mem_of_getElem? hi);have HM0:=hide (hm.bel (ba (bfl w.heap.size w) (.cells (bxc b).toArray 41)));have HDR:=hide (lfS_drop hnd (S:=S) hi);have HBS:=hide (bxS_mono hb (show (1000 : Int) ≤ 1000000 by omega));have HBM:=hide hm.lt;have HIN:=hide hin;obtain ⟨b0,b1,b2,b3,b4,b5⟩:=b;unfold bxv;clear hl hnd hsm hi hb hs hsi hm hin
 go_enter Tryz.func164,Tryz.ntmps164;have hvb:=vb_new w 41 (bxc ⟨b0,b1,b2,b3,b4,b5⟩) w.heap.size rfl;have HVB:=hide hvb;clear hvb
 go_wp2_with (refine wpl_dropS _ rfl _ _ rfl bm cap _ rfl (zu HM0) ⟨b0,b1,b2,b3,b4,b5⟩ rfl (zu HBS) ?_;intro w2 hm2 htt;have hv2:=(Tm.turned htt).vb (zu HVB) (by have:=zu HBM;omega);have y0:=hv2.cell (m:=0) rfl;have y1:=hv2.cell (m:=1) rfl;have y2:=hv2.cell (m:=2) rfl;have y3:=hv2.cell (m:=3) rfl;have y4:=hv2.cell (m:=4) rfl;have y5:=hv2.cell (m:=5) rfl;have HM2:=hide hm2;have HT2:=hide (Tm.turned htt);clear hm2 htt hv2)
 clear y0 y1 y2 y3 y4 y5;rw [zu HDR] at HM2;have HTW:=hide ((Tm.of_bel (g:=bm) (ba (bfl w.heap.size w) (.cells (bxc ⟨b0,b1,b2,b3,b4,b5⟩).toArray 41))).trans (zu HT2));have hs2:=(zu HT2).size;simp only [World.size_alloc] at hs2;have HS2:=hide hs2
 have HR3:=hide (show (w2.alloc (.cells (bxc ⟨b0,b1,b2,b3,b4,b5⟩).toArray 41)).ownsRow (w.heap.size + 1) 41 6 (.slice (some ⟨w2.heap.size,0,none⟩) 1 1) 1 (flatG bxc (bxl l [i])) from by
  rw [show bxl l [i] = [⟨b0,b1,b2,b3,b4,b5⟩] by simp [bxl,List.getD_eq_getElem?_getD,zu HI],flat_oneG]
  exact (vb_new w2 41 (bxc ⟨b0,b1,b2,b3,b4,b5⟩) _ rfl).ownsK (zu HS2) rfl)
 have HM3:=hide ((zu HM2).bel (ba (bfl w2.heap.size w2) (.cells (bxc ⟨b0,b1,b2,b3,b4,b5⟩).toArray 41)));have HT3:=hide ((zu HTW).trans (Tm.of_bel (ba (bfl w2.heap.size w2) (.cells (bxc ⟨b0,b1,b2,b3,b4,b5⟩).toArray 41))));clear hs2 HM0 HM2 HT2 HTW HVB HBS HDR
 go_loopw [4,5] (fun s4 s5 W => ∃ (rs : List Nat) (at_ rn c4 : Nat) (u4 : Option Addr) (S : Nat → Bool),s4 = .slice u4 rn c4 ∧ rs.length = rn ∧ s5 = .int .i64 (at_ : Int) ∧ at_ ≤ rn ∧ Walk (tcP l) n i S (rs.drop at_) ∧ W.ownsRow (w.heap.size + 1) 41 6 (.slice u4 rn c4) rn (flatG bxc (bxl l rs)) ∧ (∀ r ∈ rs,r < n) ∧ rn + uns n S ≤ n ∧ MpS W bm cap (lfS l S) ∧ Tm bm w W ∧ w.heap.size + 1 ≤ W.heap.size) (fun _ s5 _ => n + 1 - (intOf s5).toNat)
 case atStart => exact ⟨[i],0,1,_,_,_,rfl,rfl,rfl,Nat.zero_le _,by simpa using zu HWK,zu HR3,fun r hr => by rw [List.mem_singleton.1 hr];exact zu HIN,by have:=zu HUN;have:=zu HUL;omega,zu HM3,zu HT3,by have:=zu HS2;simp;omega⟩
 case round =>
  clear HWK HR3 HM3 HT3;obtain ⟨rs,at_,rn,c4,u4,S1,rfl,hrn,rfl,hat,hwk,hr,hrl,hun,hm,ht,hsz⟩:=hrel;have HWK:=hide hwk;have HR:=hide hr;have HRL:=hide hrl;have HUN1:=hide hun;have HM:=hide hm;have HT:=hide ht;have HSZ:=hide hsz;have HRN:=hide hrn;clear hwk hrl hm ht hsz
  by_cases h : at_ < rn
  ·have iz : decide ((at_ : Int) < (rn : Int)) = true:=dt (by omega)
   have wa : IntKind.i64.wrap ((at_ : Int) + 1) = ((at_ + 1 : Nat) : Int):=(wrap_i (by omega) (by omega)).trans (by simp);obtain ⟨a,ha⟩:=get_some (zu HRN) h;have han:=zu HRL a (List.mem_of_getElem? ha)
   have hdr : rs.drop at_ = a :: rs.drop (at_ + 1):=by
    obtain ⟨h1,h2⟩:=List.getElem?_eq_some_iff.1 ha;rw [List.drop_eq_getElem_cons h1,h2]
   have hla : l[a]? = some (l.getD a bx0):=by rw [List.getD_eq_getElem?_getD,List.getElem?_eq_getElem (by rw [zu HL];exact han)];rfl
   rw [hdr] at HWK;have HLQ:=hide ((zu HWK).lookQ (byW_zero l a));have HLA:=hide hla;have HAN:=hide han;have HA:=hide ha;have HSA:=hide (zu HSM _ (List.mem_of_getElem? hla));clear hdr hla han ha hun hr hrn;go_wp2_with fail
   go_loopw [4,6] (fun s4 s6 W => ∃ (rs : List Nat) (wy rn c4 : Nat) (u4 : Option Addr) (S : Nat → Bool),s4 = .slice u4 rn c4 ∧ rs.length = rn ∧ at_ < rn ∧ s6 = .int .i64 ((wy + 1 : Nat) : Int) ∧ wy ≤ 6 ∧ rs[at_]? = some a ∧ LookQ (tcP l) n i a (byW l a wy) S (rs.drop (at_ + 1)) ∧ W.ownsRow (w.heap.size + 1) 41 6 (.slice u4 rn c4) rn (flatG bxc (bxl l rs)) ∧ (∀ r ∈ rs,r < n) ∧ rn + uns n S ≤ n ∧ MpS W bm cap (lfS l S) ∧ Tm bm w W ∧ w.heap.size + 1 ≤ W.heap.size) (fun _ s6 _ => 7 - (intOf s6).toNat)
   case atStart => exact ⟨rs,0,rn,c4,u4,S1,rfl,zu HRN,h,rfl,Nat.zero_le _,zu HA,zu HLQ,zu HR,zu HRL,zu HUN1,zu HM,zu HT,zu HSZ⟩
   case round =>
    clear HLQ HR HRL HUN1 HM HT HSZ HA HRN;obtain ⟨rs,wy,rn,c4,u4,S2,rfl,hrn,hat2,rfl,hwy,ha,hlq,hr,hrl,hun,hm,ht,hsz⟩:=hrel;have HLQ:=hide hlq;have HR:=hide hr;have HRL:=hide hrl;have HUN:=hide hun;have HM:=hide hm;have HT:=hide ht;have HSZ:=hide hsz;have HRN:=hide hrn;have HA:=hide ha;clear hlq hrl hm ht hsz hrn
    by_cases hw6 : wy < 6
    ·have wz : decide (((wy + 1 : Nat) : Int) ≤ 6) = true:=dt (by omega)
     have ww : IntKind.i64.wrap (((wy + 1 : Nat) : Int) + 1) = ((wy + 1 + 1 : Nat) : Int):=(wrap_i (by omega) (by omega)).trans (by simp);obtain ⟨gr,rfl,hgB,hgl,hx⟩:=own_rowc bxc_len hr (by omega);have hbl:=bxl_at (l:=l) ha;have HTO:=hide (fun X => toward_any (wy + 1) X (by omega))
     have hst : (-1 ≤ (stp (wy + 1)).1 ∧ (stp (wy + 1)).1 ≤ 1) ∧ (-1 ≤ (stp (wy + 1)).2.1 ∧ (stp (wy + 1)).2.1 ≤ 1) ∧ (-1 ≤ (stp (wy + 1)).2.2 ∧ (stp (wy + 1)).2.2 ≤ 1):=by
      have : wy = 0 ∨ wy = 1 ∨ wy = 2 ∨ wy = 3 ∨ wy = 4 ∨ wy = 5:=by omega
      rcases this with rfl | rfl | rfl | rfl | rfl | rfl <;> decide
     have HMV:=hide (fun X => movedP_any (l.getD a bx0) (stp (wy + 1)).1 (stp (wy + 1)).2.1 (stp (wy + 1)).2.2 X (bxS_mono (zu HSA) (by omega)) (by omega) (by omega) (by omega));have HNS:=hide (bxS_mono (near_S (zu HSA) (wy + 1)) (show (1000 : Int) + 1 ≤ 1000000 by omega));have HBW:=hide (fun k (h : byW l a (wy + 1) k) => byW_succ h);have HTC:=hide (fun k (h : l.getD k bx0 = near (l.getD a bx0) (wy + 1)) => tcP_iff.2 ⟨wy + 1,by omega,by omega,h⟩)
     obtain ⟨nb,hnb⟩ : ∃ q,near (l.getD a bx0) (wy + 1) = q:=⟨_,rfl⟩
     rw [show mvB (l.getD a bx0) (stp (wy + 1)).1 (stp (wy + 1)).2.1 (stp (wy + 1)).2.2 = nb from hnb] at HMV;rw [hnb] at HNS HBW HTC;clear hnb
     obtain ⟨⟨c0,c1,c2,c3,c4',c5⟩,hcq⟩ : ∃ q,l.getD a bx0 = q:=⟨_,rfl⟩
     rw [hcq] at hbl HMV;have HLK:=hide ((zu HM).look (zu HNS));have x0:=hx at_ _ hbl 0 _ rfl;have x1:=hx at_ _ hbl 1 _ rfl;have x2:=hx at_ _ hbl 2 _ rfl;have x3:=hx at_ _ hbl 3 _ rfl;have x4:=hx at_ _ hbl 4 _ rfl;have x5:=hx at_ _ hbl 5 _ rfl;rw [Nat.add_zero] at x0;have HX0:=hide x0;have HX1:=hide x1;have HX2:=hide x2;have HX3:=hide x3;have HX4:=hide x4;have HX5:=hide x5;have HAT2:=hide hat2;have HGB:=hide hgB
     obtain ⟨⟨e0,e1,e2,e3,e4,e5⟩,hnq⟩ : ∃ q,nb = q:=⟨_,rfl⟩
     have HNQ:=hide hnq;rw [hnq] at HMV;unfold bxv plv at HMV;unfold plv at HTO;simp only at HMV;generalize (stp (wy + 1)).1 = d1 at *;generalize (stp (wy + 1)).2.1 = d2 at *;generalize (stp (wy + 1)).2.2 = d3 at *;clear hbl hcq hx x0 x1 x2 x3 x4 x5 hst hnq hgB hgl ha hat2 hr hun
     go_upto_region 9 with fail
     refine Go.Code.wp_mono (Only.to (fun _ _ h => h)) (tp9 HX0 HX1 HX2 HX3 HX4 HX5 HAT2 (hide fun X _ => zu HTO X) (hide fun X _ => zu HMV X) ?_);intro n7 W1 hb1 hv1 hn7;have HM1:=hide ((zu HM).bel hb1);obtain ⟨z,hz⟩:=(zu HM1).look (zu HNS);have HV1:=hide hv1;have HB1:=hide hb1;have HN7:=hide hn7;have v0:=hv1.cell (m:=0) rfl;have v1:=hv1.cell (m:=1) rfl;have v2:=hv1.cell (m:=2) rfl;have v3:=hv1.cell (m:=3) rfl;have v4:=hv1.cell (m:=4) rfl;have v5:=hv1.cell (m:=5) rfl;rw [zu HNQ] at hz;unfold bxv at hz;have HR1:=hide (own_bel (zu HR) hb1)
     have HT1:=hide ((zu HT).trans (Tm.of_bel hb1));have HS1:=hide (Nat.le_trans (zu HSZ) hb1.size);clear hb1 hv1 hn7
     cases hth : lfS l S2 ⟨e0,e1,e2,e3,e4,e5⟩ with
     | false =>
      rw [hth] at hz
      have HLQ2:=hide ((zu HLQ).skip (Q':=byW l a (wy + 1)) (fun k hk hkn => (zu HBW k hk).elim .inl (fun e => .inr (by
       have hlk : l[k]? = some nb:=by rw [← e,List.getD_eq_getElem?_getD,List.getElem?_eq_getElem (by rw [zu HL];exact hkn)];rfl
       rw [zu HNQ] at hlk;have h2:=lfS_at (zu HND) (S:=S2) hlk;rw [hth] at h2
       cases hs : S2 k with
       | true => rfl
       | false => rw [hs] at h2;cases h2))))
      clear hth;go_wp2_with fail;go_roundw
      case rel => exact ⟨rs,wy + 1,rn,c4,_,S2,rfl,zu HRN,zu HAT2,rfl,by omega,zu HA,zu HLQ2,zu HR1,zu HRL,zu HUN,zu HM1,zu HT1,zu HS1⟩
      case measure => simp only [intOf];omega
     | true =>
      rw [hth] at hz;obtain ⟨K,hK,hSK⟩:=lfS_iff.1 hth;have hKn : K < n:=by have:=(List.getElem?_eq_some_iff.1 hK).1;have:=zu HL;omega
      have hgk : l.getD K bx0 = nb:=by rw [List.getD_eq_getElem?_getD,hK,zu HNQ];rfl
      have HGK:=hide hgk;have HKN:=hide hKn
      have HLQ2:=hide ((zu HLQ).push (Q':=byW l a (wy + 1)) hKn (zu HTC K hgk) (fun k hk hkn => (zu HBW k hk).elim .inl (fun e => .inr (by
       have hlk : l[k]? = some nb:=by rw [← e,List.getD_eq_getElem?_getD,List.getElem?_eq_getElem (by rw [zu HL];exact hkn)];rfl
       rw [zu HNQ] at hlk
       exact nod_eq (zu HND) hlk hK))))
      have HDR:=hide (lfS_drop (zu HND) (S:=S2) hK);have HUN2:=hide (uns_push hSK hKn);have HLT:=hide (zu HM1).lt;clear hth hK hSK hKn hgk
      go_wp2_with (first | (refine wpl_dropS _ rfl _ _ rfl bm cap _ rfl (zu HM1) ⟨e0,e1,e2,e3,e4,e5⟩ rfl (by have:=zu HNS;rw [zu HNQ] at this;exact this) ?_;intro w3 hm3 htt;have hv3:=(Tm.turned htt).vb (zu HV1) (by have:=zu HBM;have:=zu HN7;have:=zu HSZ;omega);have u0:=hv3.cell (m:=0) rfl;have u1_:=hv3.cell (m:=1) rfl;have u2_:=hv3.cell (m:=2) rfl;have u3_:=hv3.cell (m:=3) rfl;have u4_:=hv3.cell (m:=4) rfl;have u5_:=hv3.cell (m:=5) rfl;have HM3:=hide hm3;have HT3:=hide (Tm.turned htt);clear hm3 htt hv3) | (at_builtin;refine zu ?_))
      refine hide ?_;clear v0 v1 v2 v3 v4 v5 u0 u1_ u2_ u3_ u4_ u5_ hz;rw [zu HDR] at HM3;have HB3:=hide (show w.heap.size + 1 ≤ w3.heap.size from Nat.le_trans (zu HS1) (zu HT3).size);have HR3:=hide ((zu HT3).own (zu HR1) (by have:=zu HBM;omega))
      refine wpList_append_own _ rfl _ _ 148 rfl (w.heap.size + 1) 41 iT _ 6 48 Tryz.underlying148 ht ht0 ht1 ht2 rfl (by decide) _ rn _ rfl (own_bel (zu HR3) (ba (bfl _ _) _)) _ 1 1 (bxc ⟨e0,e1,e2,e3,e4,e5⟩) rfl rfl (by first | exact news_cells _ _ rfl | exact news_cells _ _ (by simp)) (bxc_one _) (by have:=zu HUN;unfold maxLen;omega) (by have:=zu HUN;omega) (by have:=zu HB3;simp;omega) ?_;intro v' w1 hown' hgrow _;have R:=hide (own_app (c:=bxc) (Below.alloc (B:=w.heap.size + 1) (bfl _ _) (zu HB3) _) (by have:=zu HB3;simp;omega) (zu HR3) hown' hgrow)
      have HM5:=hide ((zu HM3).blk ((zu R).2.block bm (by have:=zu HBM;omega)))
      have HT5:=hide (show Tm bm w w1 from by
       have h4:=(zu HT1).trans (zu HT3);have h5:=(zu R).2
       exact ⟨h5.os.trans h4.os,h5.tape.trans h4.tape,h5.output.trans h4.output,Nat.le_trans h4.size h5.size,fun k hk h1 => (h5.block k (by omega)).trans (h4.block k hk h1)⟩)
      have HS5:=hide (Nat.le_trans (zu HB3) (zu R).2.size);clear hown' hgrow;go_wp2_with fail;go_roundw
      case rel =>
       have hrr:=(zu R).1;rw [← show bxl l rs ++ [(⟨e0,e1,e2,e3,e4,e5⟩ : Bx)] = bxl l rs ++ [⟨e0,e1,e2,e3,e4,e5⟩] from rfl] at hrr
       have hbx : bxl l (rs ++ [K]) = bxl l rs ++ [⟨e0,e1,e2,e3,e4,e5⟩]:=by
        unfold bxl;rw [List.map_append,List.map_singleton,zu HGK,zu HNQ]
       rw [← hbx] at hrr;obtain ⟨u9,c9,rfl,_⟩:=own_form hrr;refine ⟨rs ++ [K],wy + 1,rn + 1,c9,u9,_,rfl,by rw [List.length_append,zu HRN];rfl,by have:=zu HAT2;omega,rfl,by omega,?_,?_,hrr,?_,?_,zu HM5,zu HT5,zu HS5⟩
       ·rw [List.getElem?_append_left (by rw [zu HRN];exact zu HAT2)]
        exact zu HA
       ·have h9:=zu HLQ2
        rw [List.drop_append_of_le_length (by rw [zu HRN];exact zu HAT2)];exact h9
       ·intro r hr
        rcases List.mem_append.1 hr with hr | hr
        ·exact zu HRL r hr
        ·rw [List.mem_singleton.1 hr];exact zu HKN
       ·have h1:=zu HUN2
        have h2:=zu HUN;omega
      case measure => simp only [intOf];omega
    ·obtain rfl : wy = 6:=by omega
     have wz : decide (((6 + 1 : Nat) : Int) ≤ 6) = false:=by decide
     have HWE:=hide ((zu HLQ).end_ (fun k hk ht => byW_six ht));have HAT2:=hide hat2;clear ha hr hun hat2;go_wp2_with fail;go_roundw
     case rel => exact ⟨rs,at_ + 1,rn,c4,u4,S2,rfl,zu HRN,by simp,zu HAT2,zu HWE,zu HR,zu HRL,zu HUN,zu HM,zu HT,zu HSZ⟩
     case measure => have:=zu HAT2;have:=zu HUN;simp only [intOf];omega
  ·obtain rfl : at_ = rn:=by omega
   have iz : decide ((at_ : Int) < (at_ : Int)) = false:=df (by omega);rw [show rs.drop at_ = [] from List.drop_eq_nil_of_le (by rw [hrn];exact Nat.le_refl _)] at HWK;clear hrn hr hun;go_wp2_with fail
   go_end0
   exact ⟨⟨_,rfl⟩,⟨S1,(zu HWK).done (zu HIN),zu HM⟩,zu HT⟩
end Go.Proofs.YtkiplmabjeadgaaGreat
