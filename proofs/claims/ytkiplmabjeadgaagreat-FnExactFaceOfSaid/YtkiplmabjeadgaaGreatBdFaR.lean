/- The model's face of a feature. -/
import Derived.Test.YtkiplmabjeadgaaGreatBdF9R
import Derived.Test.YtkiplmabjeadgaaGreatBdTdR
namespace Go.Proofs.YtkiplmabjeadgaaGreat
set_option maxRecDepth 100000
set_option maxHeartbeats 16000000
open Go.ChangeShapes Go.WideShapes Go.ChangeAt Go.RowKit
set_option linter.unusedVariables false
set_option linter.unusedSimpArgs false
theorem info65 : (Tryz.prog.info? 41).map (fun i => (i.zero,i.size,i.bytes)) = some (some (.agg #[.int .i64 0,.int .i64 0,.int .i64 0,.int .i64 0,.int .i64 0,.int .i64 0]),6,48):=by kernel_rfl
theorem bxc_one (b : Bx) : ∀ u ∈ bxc b,u.oneCell' = true:=by
 intro u hu;simp only [bxc,List.mem_cons,List.not_mem_nil,or_false] at hu
 rcases hu with rfl | rfl | rfl | rfl | rfl | rfl <;> rfl
def fcL (s a n : Int) (b : Bx) : List Value:=.string ⟨#[]⟩ :: .int .i64 s :: .int .i64 a :: .int .i64 n :: bxc b
def fcV (s a n : Int) (b : Bx) : Value:=.agg #[.string ⟨#[]⟩,.int .i64 s,.int .i64 a,.int .i64 n,.int .i64 b.x0,.int .i64 b.y0,.int .i64 b.z0,.int .i64 b.x1,.int .i64 b.y1,.int .i64 b.z1]
theorem ofO_len_le (L : List Sq) (n s : Nat) : (ofO L n s).length ≤ L.length:=by
 unfold ofO;rw [List.length_map];exact List.length_filter_le _ _
theorem ofO_mem {L : List Sq} {n s : Nat} {b : Bx} (h : b ∈ ofO L n s) : ∃ q ∈ L,b = q.bx:=by
 unfold ofO at h;obtain ⟨q,hq,rfl⟩:=List.mem_map.1 h;exact ⟨q,(List.mem_filter.1 hq).1,rfl⟩
theorem own_slG {α : Type} {c : α → List Value} {k : Nat} (hc : ∀ a,(c a).length = k) {w : World} {B t n cap : Nat} {u : Option Addr} {l : List α} (h : w.ownsRow B t k (.slice u n cap) n (flatG c l)) (hl : l.length = n) : ∃ p,SlG c k w u p 0 l:=by
 by_cases h0 : n = 0
 ·have : l = []:=List.eq_nil_of_length_eq_zero (by omega)
  subst this;exact ⟨0,fun q => absurd rfl q⟩
 ·obtain ⟨g,rfl,_,hg,hx⟩:=own_rowc hc h h0
  exact ⟨g,fun _ => ⟨rfl,hg,fun i a ha j v hv => by rw [Nat.zero_add];exact hx i a ha j v hv⟩⟩
theorem bel6 {B g : Nat} {w W : World} (h : Below B w W) (hg : B ≤ g) (v0 v1 v2 v3 v4 v5 : Value) : Below B w ((((((W.setCell ⟨g,4,none⟩ v0).setCell ⟨g,5,none⟩ v1).setCell ⟨g,6,none⟩ v2).setCell ⟨g,7,none⟩ v3).setCell ⟨g,8,none⟩ v4).setCell ⟨g,9,none⟩ v5):=by
 repeat (refine Below.setCell ?_ (show B ≤ (⟨g,_,none⟩ : Addr).block from hg) _)
 exact h
theorem cell6 {g : Nat} {W : World} {t : Nat} {x0 x1 x2 x3 x4 x5 x6 x7 x8 x9 : Value} (h : vb W g t [x0,x1,x2,x3,x4,x5,x6,x7,x8,x9]) (v0 v1 v2 v3 v4 v5 : Value) : vb ((((((W.setCell ⟨g,4,none⟩ v0).setCell ⟨g,5,none⟩ v1).setCell ⟨g,6,none⟩ v2).setCell ⟨g,7,none⟩ v3).setCell ⟨g,8,none⟩ v4).setCell ⟨g,9,none⟩ v5) g t [x0,x1,x2,x3,v0,v1,v2,v3,v4,v5] :=
 (((((h.set 4 v0).set 5 v1).set 6 v2).set 7 v3).set 8 v4).set 9 v5
theorem keep6 {g j : Nat} {W : World} (hj : j ≠ g) (v0 v1 v2 v3 v4 v5 : Value) : ((((((W.setCell ⟨g,4,none⟩ v0).setCell ⟨g,5,none⟩ v1).setCell ⟨g,6,none⟩ v2).setCell ⟨g,7,none⟩ v3).setCell ⟨g,8,none⟩ v4).setCell ⟨g,9,none⟩ v5).heap[j]? = W.heap[j]?:=by
 repeat (refine Eq.trans (Below.heap_setCell _ _ _ _ (show j ≠ (⟨g,_,none⟩ : Addr).block from hj)) ?_)
 rfl
theorem bel10 {B g : Nat} {w W : World} (h : Below B w W) (hg : B ≤ g) (v0 v1 v2 v3 v4 v5 v6 v7 v8 v9 : Value) : Below B w ((((((((((W.setCell ⟨g,0,none⟩ v0).setCell ⟨g,1,none⟩ v1).setCell ⟨g,2,none⟩ v2).setCell ⟨g,3,none⟩ v3).setCell ⟨g,4,none⟩ v4).setCell ⟨g,5,none⟩ v5).setCell ⟨g,6,none⟩ v6).setCell ⟨g,7,none⟩ v7).setCell ⟨g,8,none⟩ v8).setCell ⟨g,9,none⟩ v9):=by
 iterate 10 (refine Below.setCell ?_ (show B ≤ (⟨g,_,none⟩ : Addr).block from hg) _)
 exact h
theorem cell10 {g : Nat} {W : World} {t : Nat} {x0 x1 x2 x3 x4 x5 x6 x7 x8 x9 : Value} (h : vb W g t [x0,x1,x2,x3,x4,x5,x6,x7,x8,x9]) (v0 v1 v2 v3 v4 v5 v6 v7 v8 v9 : Value) : vb ((((((((((W.setCell ⟨g,0,none⟩ v0).setCell ⟨g,1,none⟩ v1).setCell ⟨g,2,none⟩ v2).setCell ⟨g,3,none⟩ v3).setCell ⟨g,4,none⟩ v4).setCell ⟨g,5,none⟩ v5).setCell ⟨g,6,none⟩ v6).setCell ⟨g,7,none⟩ v7).setCell ⟨g,8,none⟩ v8).setCell ⟨g,9,none⟩ v9) g t [v0,v1,v2,v3,v4,v5,v6,v7,v8,v9] :=
 ((((((((((h.set 0 v0).set 1 v1).set 2 v2).set 3 v3).set 4 v4).set 5 v5).set 6 v6).set 7 v7).set 8 v8).set 9 v9)
theorem faceM_any (u : Option Addr) (p po n cu : Nat) (L : List Sq) (nb sd : Nat) (w : World) (hl : L.length = n) (hn : n ≤ 100000) (hbx : ∀ q ∈ L,bxS 1000 q.bx) (hu : SlG sqc 8 w u p po L) :
  Calls Tryz.prog 81 #[.slice u n cu,.int .i64 (nb : Int),.int .i64 (sd : Int)] w fun e w' => e = .returned (fcV sd ((ofO L nb sd).length : Int) ((pcsL (ofO L nb sd) : Nat) : Int) (hul (ofO L nb sd))) ∧ Below w.heap.size w w':=by
 obtain ⟨iT,ht,ht0,ht1,ht2⟩:=info_parts info65;have HL:=hide hl;have HBX:=hide hbx;have HU:=hide (fun W (h : Below w.heap.size w W) => hu.bel h);clear hl hbx hu
 have HV0 : Hid (vb (((w.alloc (.cells #[.string ⟨#[]⟩,.int .i64 0,.int .i64 0,.int .i64 0,.int .i64 0,.int .i64 0,.int .i64 0,.int .i64 0,.int .i64 0,.int .i64 0] 43)).alloc (.cells #[.string ⟨#[]⟩,.int .i64 (sd : Int),.int .i64 0,.int .i64 0,.int .i64 0,.int .i64 0,.int .i64 0,.int .i64 0,.int .i64 0,.int .i64 0] 43)).alloc (.cells #[] 41)) (w.heap.size + 1) 43 (fcL sd 0 0 bx0)):=hide ((vb_new _ 43 _ _ (by simp)).bel (ba (bfl _ _) _))
 have HB0 : Hid (Below w.heap.size w (((w.alloc (.cells #[.string ⟨#[]⟩,.int .i64 0,.int .i64 0,.int .i64 0,.int .i64 0,.int .i64 0,.int .i64 0,.int .i64 0,.int .i64 0,.int .i64 0] 43)).alloc (.cells #[.string ⟨#[]⟩,.int .i64 (sd : Int),.int .i64 0,.int .i64 0,.int .i64 0,.int .i64 0,.int .i64 0,.int .i64 0,.int .i64 0,.int .i64 0] 43)).alloc (.cells #[] 41))):=hide (ba (ba (ba (bfl _ _) _) _) _)
 have HR0 : Hid ((((w.alloc (.cells #[.string ⟨#[]⟩,.int .i64 0,.int .i64 0,.int .i64 0,.int .i64 0,.int .i64 0,.int .i64 0,.int .i64 0,.int .i64 0,.int .i64 0] 43)).alloc (.cells #[.string ⟨#[]⟩,.int .i64 (sd : Int),.int .i64 0,.int .i64 0,.int .i64 0,.int .i64 0,.int .i64 0,.int .i64 0,.int .i64 0,.int .i64 0] 43)).alloc (.cells #[] 41)).ownsRow (w.heap.size + 2) 41 6 (.slice (some ⟨w.heap.size + 1 + 1,0,none⟩) 0 0) 0 []):=hide (own_made _ 41 _ 6 (by simp) _ (by simp))
 have HRA : Hid (vb (w.alloc (.cells #[.string ⟨#[]⟩,.int .i64 0,.int .i64 0,.int .i64 0,.int .i64 0,.int .i64 0,.int .i64 0,.int .i64 0,.int .i64 0,.int .i64 0] 43)) w.heap.size 43 (fcL 0 0 0 bx0)):=hide (vb_new _ 43 _ _ rfl)
 have HRB : Hid (vb (((w.alloc (.cells #[.string ⟨#[]⟩,.int .i64 0,.int .i64 0,.int .i64 0,.int .i64 0,.int .i64 0,.int .i64 0,.int .i64 0,.int .i64 0,.int .i64 0] 43)).alloc (.cells #[.string ⟨#[]⟩,.int .i64 (sd : Int),.int .i64 0,.int .i64 0,.int .i64 0,.int .i64 0,.int .i64 0,.int .i64 0,.int .i64 0,.int .i64 0] 43)).alloc (.cells #[] 41)) w.heap.size 43 (fcL 0 0 0 bx0)):=hide ((zu HRA).bel (ba (ba (bfl _ _) _) _));clear HRA;go_enter Tryz.func81,Tryz.ntmps81;go_wp2_with fail
 go_loopw [8,9] (fun v s W => ∃ (i q : Nat),s = .int .i64 (i : Int) ∧ i ≤ n ∧ q ≤ i ∧ (ofO (L.take i) nb sd).length = q ∧ W.ownsRow (w.heap.size + 2) 41 6 v q (flatG bxc (ofO (L.take i) nb sd)) ∧ vb W (w.heap.size + 1) 43 (fcL sd 0 0 (hul (ofO (L.take i) nb sd))) ∧ vb W w.heap.size 43 (fcL 0 0 0 bx0) ∧ Below w.heap.size w W) (fun _ s _ => n - (intOf s).toNat)
 case atStart => exact ⟨0,0,rfl,Nat.zero_le _,Nat.le_refl _,rfl,zu HR0,zu HV0,zu HRB,zu HB0⟩
 case round =>
  clear HR0 HV0 HRB HB0;obtain ⟨i,q,rfl,hi,hqi,hql,hr,hv,hra,hb⟩:=hrel;have HR:=hide hr;have HV:=hide hv;have HRA:=hide hra;have HB:=hide hb;have HQL:=hide hql;obtain ⟨ug,cg,rfl,_⟩:=own_form hr;have hvl:=hv.lt
  by_cases h : i < n
  ·have i1 : (i : Int) < (n : Int):=by omega
   have i0 : (0 : Int) ≤ (i : Int):=Int.natCast_nonneg _;have iz : decide ((i : Int) < (n : Int)) = true:=dt i1;have wi : IntKind.i64.wrap ((i : Int) + 1) = ((i + 1 : Nat) : Int):=(wrap_i (by omega) (by omega)).trans (by simp);obtain ⟨s,hs⟩:=get_some (zu HL) h;obtain ⟨rfl,hpw,hsc⟩:=(zu HU _ hb).at hs;have k0:=hsc 0 _ rfl;have k1:=hsc 1 _ rfl;have k2:=hsc 2 _ rfl;have k3:=hsc 3 _ rfl;have k4:=hsc 4 _ rfl;have k5:=hsc 5 _ rfl;have k6:=hsc 6 _ rfl;have k7:=hsc 7 _ rfl;rw [Nat.add_zero] at k0;have HTK:=hide (ofO_take hs nb sd)
   have HSC:=hide (fun W (hW : Below w.heap.size w W) => ((zu HU W hW).at hs).2.2)
   have hne1 : ((s.nb : Int) != (nb : Int)) = !(s.nb == nb):=by
    rw [Bool.eq_iff_iff];simp;omega
   have hne2 : ((s.sd : Int) != (sd : Int)) = !(s.sd == sd):=by
    rw [Bool.eq_iff_iff];simp;omega
   clear hs hsc hr hra hb
   by_cases hc : (s.nb == nb && s.sd == sd) = true
   ·have HTK2 : Hid (ofO (L.take (i + 1)) nb sd = ofO (L.take i) nb sd ++ [s.bx]):=hide (by rw [zu HTK,if_pos hc])
    rw [Bool.and_eq_true] at hc;obtain ⟨c1,c2⟩:=hc;rw [c1] at hne1;rw [c2] at hne2;have c1' : s.nb = nb:=by simpa using c1
    have c2' : s.sd = sd:=by simpa using c2
    rw [c1'] at k0 hne1;rw [c2'] at k1 hne2;simp only [Bool.not_true] at hne1 hne2;clear c1 c2 c1' c2' HTK;have fb:=hv.frozen;obtain ⟨sn,ss,⟨b0,b1,b2,b3,b4,b5⟩⟩:=s
    dsimp only at k2 k3 k4 k5 k6 k7 HTK2
    generalize ofO (L.take i) nb sd = l at *;have HFB:=hide fb
    by_cases hq0 : q = 0
    ·have e0 : ((q : Int) == 0) = true:=by rw [hq0];rfl
     have e1 : decide ((q : Int) = 0) = true:=dt (by omega);have hl0 : l = []:=List.eq_nil_of_length_eq_zero (by rw [zu HQL];exact hq0);have HL0:=hide hl0;have c4:=hv.cell (m:=4) rfl;have c5:=hv.cell (m:=5) rfl;have c6:=hv.cell (m:=6) rfl;have c7:=hv.cell (m:=7) rfl;have c8:=hv.cell (m:=8) rfl;have c9:=hv.cell (m:=9) rfl;have HV8:=hide (cell6 hv (.int .i64 b0) (.int .i64 b1) (.int .i64 b2) (.int .i64 b3) (.int .i64 b4) (.int .i64 b5))
     have HB8 : Hid (Below w.heap.size w _):=hide (bel6 (g:=w.heap.size + 1) (zu HB) (Nat.le_succ _) (.int .i64 b0) (.int .i64 b1) (.int .i64 b2) (.int .i64 b3) (.int .i64 b4) (.int .i64 b5));have HR8 : Hid (World.ownsRow _ (w.heap.size + 2) 41 6 (.slice ug q cg) q (flatG bxc l)):=hide (own_kept (zu HR) (fun j hj => keep6 (g:=w.heap.size + 1) (by have:=own_ge (zu HR) j hj;omega) (.int .i64 b0) (.int .i64 b1) (.int .i64 b2) (.int .i64 b3) (.int .i64 b4) (.int .i64 b5)))
     have HRA8 : Hid (vb _ w.heap.size 43 (fcL 0 0 0 bx0)):=hide ((keep6 (g:=w.heap.size + 1) (by omega) (.int .i64 b0) (.int .i64 b1) (.int .i64 b2) (.int .i64 b3) (.int .i64 b4) (.int .i64 b5)).trans (zu HRA));clear hv hl0 hq0;go_wp2_with fail;clear k0 k1 k2 k3 k4 k5 k6 k7 c4 c5 c6 c7 c8 c9 fb;clear hne1 hne2;have HC8:=hide ((zu HSC) _ (zu HB8));have hvl8:=(zu HV8).lt;have HAR:=hide (fun X => around_any ⟨b0,b1,b2,b3,b4,b5⟩ ⟨b0,b1,b2,b3,b4,b5⟩ X)
     refine Go.Code.wp_mono (Only.to (fun _ _ h => h)) (fa9 (hide ((zu HV8).cell (m:=4) rfl)) (hide ((zu HV8).cell (m:=5) rfl)) (hide ((zu HV8).cell (m:=6) rfl)) (hide ((zu HV8).cell (m:=7) rfl)) (hide ((zu HV8).cell (m:=8) rfl)) (hide ((zu HV8).cell (m:=9) rfl)) (hide (zu HC8 2 _ rfl)) (hide (zu HC8 3 _ rfl)) (hide (zu HC8 4 _ rfl)) (hide (zu HC8 5 _ rfl)) (hide (zu HC8 6 _ rfl)) (hide (zu HC8 7 _ rfl)) hvl8 (hide ((zu HV8).cell (m:=4) rfl)) (hide ((zu HV8).cell (m:=5) rfl)) (hide ((zu HV8).cell (m:=6) rfl)) (hide ((zu HV8).cell (m:=7) rfl)) (hide ((zu HV8).cell (m:=8) rfl)) (hide ((zu HV8).cell (m:=9) rfl)) (hide (zu HV8).frozen) (hide h) (hide fun X _ => zu HAR X) ?_)
     intro W1 W9 hW9 hb9;have HV9:=hide (cell6 ((zu HV8).bel hb9) (.int .i64 (arn ⟨b0,b1,b2,b3,b4,b5⟩ ⟨b0,b1,b2,b3,b4,b5⟩).x0) (.int .i64 (arn ⟨b0,b1,b2,b3,b4,b5⟩ ⟨b0,b1,b2,b3,b4,b5⟩).y0) (.int .i64 (arn ⟨b0,b1,b2,b3,b4,b5⟩ ⟨b0,b1,b2,b3,b4,b5⟩).z0) (.int .i64 (arn ⟨b0,b1,b2,b3,b4,b5⟩ ⟨b0,b1,b2,b3,b4,b5⟩).x1) (.int .i64 (arn ⟨b0,b1,b2,b3,b4,b5⟩ ⟨b0,b1,b2,b3,b4,b5⟩).y1) (.int .i64 (arn ⟨b0,b1,b2,b3,b4,b5⟩ ⟨b0,b1,b2,b3,b4,b5⟩).z1));rw [← hW9] at HV9
     have HB9 : Hid (Below w.heap.size w W9):=hide (by rw [hW9];exact bel6 (bc (zu HB8) hb9) (Nat.le_succ _) _ _ _ _ _ _);have HR9 : Hid (W9.ownsRow (w.heap.size + 2) 41 6 (.slice ug q cg) q (flatG bxc l)):=hide (own_kept (own_bel (zu HR8) hb9) (fun j hj => by rw [hW9];exact keep6 (by have:=own_ge (zu HR8) j hj;omega) _ _ _ _ _ _));have HRA9 : Hid (vb W9 w.heap.size 43 (fcL 0 0 0 bx0)):=hide (by rw [hW9];exact (keep6 (by omega) _ _ _ _ _ _).trans ((zu HRA8).bel hb9));have hs9 : w.heap.size + 2 ≤ W9.heap.size:=by have:=(zu HV9).lt;omega
     have HS9:=hide hs9;have HC9:=hide ((zu HSC) _ (zu HB9));have k2:=(zu HC9) 2 _ rfl;have k3:=(zu HC9) 3 _ rfl;have k4:=(zu HC9) 4 _ rfl;have k5:=(zu HC9) 5 _ rfl;have k6:=(zu HC9) 6 _ rfl;have k7:=(zu HC9) 7 _ rfl;have HHU : Hid (hul (l ++ [⟨b0,b1,b2,b3,b4,b5⟩]) = arn ⟨b0,b1,b2,b3,b4,b5⟩ ⟨b0,b1,b2,b3,b4,b5⟩):=hide (by rw [zu HL0,List.nil_append,hul_one,arn_self]);clear hW9 hb9
     go_wp2_with (at_builtin;refine zu ?_)
     refine hide ?_;refine wpList_append_own _ rfl _ _ 148 rfl (w.heap.size + 2) 41 iT _ 6 48 Tryz.underlying148 ht ht0 ht1 ht2 rfl (by decide) _ q _ rfl (own_bel (zu HR9) (ba (bfl _ _) _)) _ 1 1 (bxc ⟨b0,b1,b2,b3,b4,b5⟩) rfl rfl (by first | exact news_cells _ _ rfl | exact news_cells _ _ (by simp)) (bxc_one _) (by unfold maxLen;omega) (by omega) (by simp;omega) ?_;intro v' w1 hown' hgrow _;have R:=hide (own_app (c:=bxc) (Below.alloc (B:=w.heap.size + 2) (bfl _ _) (zu HS9) _) (by simp;omega) (zu HR9) hown' hgrow);have HV11:=hide ((zu HV9).below (zu R).2 (by omega))
     have HRA11:=hide ((zu HRA9).below (zu R).2 (by omega));have HB11:=hide ((zu HB9).trans ((zu R).2.mono (by omega)));clear hown' hgrow;go_wp2_with fail;go_roundw
     case rel => exact ⟨i + 1,q + 1,by simp,h,by omega,by rw [zu HTK2,List.length_append,zu HQL];rfl,by rw [zu HTK2];exact (zu R).1,by rw [zu HTK2,zu HHU];exact zu HV11,zu HRA11,zu HB11⟩
     case measure => simp only [intOf];omega
    ·have e0 : ((q : Int) == 0) = false:=by simpa using hq0
     have e1 : decide ((q : Int) = 0) = false:=df (by omega);have hl0 : l ≠ []:=fun e => hq0 (by rw [← zu HQL,e];rfl)
     have hha:=hul_app hl0 ⟨b0,b1,b2,b3,b4,b5⟩;have HHA:=hide hha
     obtain ⟨⟨h0,h1,h2,h3,h4,h5⟩,hhq⟩ : ∃ q,hul l = q:=⟨_,rfl⟩
     rw [hhq] at HHA hv HV;have HV8:=hide hv;clear hv hl0 hq0 hha hhq HV;go_wp2_with fail;clear k0 k1 k2 k3 k4 k5 k6 k7 fb hne1 hne2;have HC8:=hide ((zu HSC) _ (zu HB));have hvl8:=(zu HV8).lt;have HAR:=hide (fun X => around_any ⟨h0,h1,h2,h3,h4,h5⟩ ⟨b0,b1,b2,b3,b4,b5⟩ X)
     refine Go.Code.wp_mono (Only.to (fun _ _ h => h)) (fa9 (hide ((zu HV8).cell (m:=4) rfl)) (hide ((zu HV8).cell (m:=5) rfl)) (hide ((zu HV8).cell (m:=6) rfl)) (hide ((zu HV8).cell (m:=7) rfl)) (hide ((zu HV8).cell (m:=8) rfl)) (hide ((zu HV8).cell (m:=9) rfl)) (hide (zu HC8 2 _ rfl)) (hide (zu HC8 3 _ rfl)) (hide (zu HC8 4 _ rfl)) (hide (zu HC8 5 _ rfl)) (hide (zu HC8 6 _ rfl)) (hide (zu HC8 7 _ rfl)) hvl8 (hide ((zu HV8).cell (m:=4) rfl)) (hide ((zu HV8).cell (m:=5) rfl)) (hide ((zu HV8).cell (m:=6) rfl)) (hide ((zu HV8).cell (m:=7) rfl)) (hide ((zu HV8).cell (m:=8) rfl)) (hide ((zu HV8).cell (m:=9) rfl)) (hide (zu HV8).frozen) (hide h) (hide fun X _ => zu HAR X) ?_)
     intro W1 W9 hW9 hb9;have HV9:=hide (cell6 ((zu HV8).bel hb9) (.int .i64 (arn ⟨h0,h1,h2,h3,h4,h5⟩ ⟨b0,b1,b2,b3,b4,b5⟩).x0) (.int .i64 (arn ⟨h0,h1,h2,h3,h4,h5⟩ ⟨b0,b1,b2,b3,b4,b5⟩).y0) (.int .i64 (arn ⟨h0,h1,h2,h3,h4,h5⟩ ⟨b0,b1,b2,b3,b4,b5⟩).z0) (.int .i64 (arn ⟨h0,h1,h2,h3,h4,h5⟩ ⟨b0,b1,b2,b3,b4,b5⟩).x1) (.int .i64 (arn ⟨h0,h1,h2,h3,h4,h5⟩ ⟨b0,b1,b2,b3,b4,b5⟩).y1) (.int .i64 (arn ⟨h0,h1,h2,h3,h4,h5⟩ ⟨b0,b1,b2,b3,b4,b5⟩).z1));rw [← hW9] at HV9
     have HB9 : Hid (Below w.heap.size w W9):=hide (by rw [hW9];exact bel6 (bc (zu HB) hb9) (Nat.le_succ _) _ _ _ _ _ _);have HR9 : Hid (W9.ownsRow (w.heap.size + 2) 41 6 (.slice ug q cg) q (flatG bxc l)):=hide (own_kept (own_bel (zu HR) hb9) (fun j hj => by rw [hW9];exact keep6 (by have:=own_ge (zu HR) j hj;omega) _ _ _ _ _ _));have HRA9 : Hid (vb W9 w.heap.size 43 (fcL 0 0 0 bx0)):=hide (by rw [hW9];exact (keep6 (by omega) _ _ _ _ _ _).trans ((zu HRA).bel hb9));have hs9 : w.heap.size + 2 ≤ W9.heap.size:=by have:=(zu HV9).lt;omega
     have HS9:=hide hs9;have HC9:=hide ((zu HSC) _ (zu HB9));have k2:=(zu HC9) 2 _ rfl;have k3:=(zu HC9) 3 _ rfl;have k4:=(zu HC9) 4 _ rfl;have k5:=(zu HC9) 5 _ rfl;have k6:=(zu HC9) 6 _ rfl;have k7:=(zu HC9) 7 _ rfl;have HHU : Hid (hul (l ++ [⟨b0,b1,b2,b3,b4,b5⟩]) = arn ⟨h0,h1,h2,h3,h4,h5⟩ ⟨b0,b1,b2,b3,b4,b5⟩):=hide (zu HHA);clear hW9 hb9
     go_wp2_with (at_builtin;refine zu ?_)
     refine hide ?_;refine wpList_append_own _ rfl _ _ 148 rfl (w.heap.size + 2) 41 iT _ 6 48 Tryz.underlying148 ht ht0 ht1 ht2 rfl (by decide) _ q _ rfl (own_bel (zu HR9) (ba (bfl _ _) _)) _ 1 1 (bxc ⟨b0,b1,b2,b3,b4,b5⟩) rfl rfl (by first | exact news_cells _ _ rfl | exact news_cells _ _ (by simp)) (bxc_one _) (by unfold maxLen;omega) (by omega) (by simp;omega) ?_;intro v' w1 hown' hgrow _;have R:=hide (own_app (c:=bxc) (Below.alloc (B:=w.heap.size + 2) (bfl _ _) (zu HS9) _) (by simp;omega) (zu HR9) hown' hgrow);have HV11:=hide ((zu HV9).below (zu R).2 (by omega))
     have HRA11:=hide ((zu HRA9).below (zu R).2 (by omega));have HB11:=hide ((zu HB9).trans ((zu R).2.mono (by omega)));clear hown' hgrow;go_wp2_with fail;go_roundw
     case rel => exact ⟨i + 1,q + 1,by simp,h,by omega,by rw [zu HTK2,List.length_append,zu HQL];rfl,by rw [zu HTK2];exact (zu R).1,by rw [zu HTK2,zu HHU];exact zu HV11,zu HRA11,zu HB11⟩
     case measure => simp only [intOf];omega
   ·have HTK2 : Hid (ofO (L.take (i + 1)) nb sd = ofO (L.take i) nb sd):=hide (by rw [zu HTK,if_neg hc,List.append_nil])
    clear HTK hv
    cases c1 : (s.nb == nb) with
    | false =>
     rw [c1] at hne1;simp only [Bool.not_false] at hne1;go_wp2_with fail;go_roundw
     case rel => exact ⟨i + 1,q,by simp,h,by omega,by rw [zu HTK2];exact zu HQL,by rw [zu HTK2];exact zu HR,by rw [zu HTK2];exact zu HV,zu HRA,zu HB⟩
     case measure => simp only [intOf];omega
    | true =>
     have c2 : (s.sd == sd) = false:=by
      rw [c1,Bool.true_and] at hc
      simpa using hc
     rw [c1] at hne1;rw [c2] at hne2;simp only [Bool.not_false,Bool.not_true] at hne1 hne2;go_wp2_with fail;go_roundw
     case rel => exact ⟨i + 1,q,by simp,h,by omega,by rw [zu HTK2];exact zu HQL,by rw [zu HTK2];exact zu HR,by rw [zu HTK2];exact zu HV,zu HRA,zu HB⟩
     case measure => simp only [intOf];omega
  ·have i1 : ¬ (i : Int) < (n : Int):=by omega
   have iz : decide ((i : Int) < (n : Int)) = false:=df i1;have hEN : ofO (L.take i) nb sd = ofO L nb sd:=by rw [List.take_of_length_le (by rw [zu HL];omega)]
   have HEN:=hide hEN
   have HBL : Hid (∀ b ∈ ofO L nb sd,bxS 1000 b):=hide (fun b hb => by
    obtain ⟨q,hq,rfl⟩:=ofO_mem hb
    exact zu HBX q hq)
   rw [hEN] at hv HR HQL;clear hEN HV hr hra hb
   obtain ⟨l,hl9⟩ : ∃ l,ofO L nb sd = l:=⟨_,rfl⟩
   have HL9:=hide hl9;rw [hl9] at hv HR HQL HBL;clear hl9;obtain ⟨pg,hsl⟩:=own_slG bxc_len (zu HR) (zu HQL);have c2:=hv.cell (m:=2) rfl;have fb:=hv.frozen;have HV8:=hide (hv.set 2 (.int .i64 (q : Int)));have HB8:=hide (Below.setCell (zu HB) (show w.heap.size ≤ (⟨w.heap.size + 1,2,none⟩ : Addr).block from Nat.le_succ _) (.int .i64 (q : Int)))
   have HSL8 : Hid (SlG bxc 6 (wr.setCell ⟨w.heap.size + 1,2,none⟩ (.int .i64 (q : Int))) ug pg 0 l):=hide (fun h0 => by
    obtain ⟨a1,a2,a3⟩:=hsl h0;have hge : ∀ g,ug = some ⟨g,0,none⟩ → w.heap.size + 2 ≤ g:=fun g hg => (own_ge (zu HR) g (by rw [hg];rfl)).1
    exact ⟨a1,by simpa [World.setCell] using a2,a3.blk (Below.heap_setCell _ _ _ _ (show pg ≠ w.heap.size + 1 by have:=hge pg a1;omega))⟩)
   have HRA8:=hide ((zu HRA).ne (g':=w.heap.size + 1) (o:=2) (x:=.int .i64 (q : Int)) (by omega));have HPC:=hide (piecesM_any ug pg 0 q cg l (wr.setCell ⟨w.heap.size + 1,2,none⟩ (.int .i64 (q : Int))) (zu HQL) (by omega) (zu HBL) (zu HSL8))
   obtain ⟨⟨h0,h1,h2,h3,h4,h5⟩,hhq⟩ : ∃ q,hul l = q:=⟨_,rfl⟩
   rw [hhq] at HV8;have HHQ:=hide hhq
   obtain ⟨pq,hpq⟩ : ∃ q,pcsL l = q:=⟨_,rfl⟩
   have HPQ:=hide hpq;rw [hpq] at HPC;clear hv hsl hhq hpq;go_wp2_with fail;refine (zu HPC).mono ?_;rintro e W4 ⟨rfl,hb4⟩;have HV9:=hide ((zu HV8).bel hb4);have HRA9:=hide ((zu HRA8).bel hb4);have HB9:=hide (bc (zu HB8) hb4);have d3:=(zu HV9).cell (m:=3) rfl;have fd:=(zu HV9).frozen 3;have HV10:=hide ((zu HV9).set 3 (.int .i64 (pq : Int)));have HRA10:=hide ((zu HRA9).ne (g':=w.heap.size + 1) (o:=3) (x:=.int .i64 (pq : Int)) (by omega))
   have HB10:=hide (Below.setCell (zu HB9) (show w.heap.size ≤ (⟨w.heap.size + 1,3,none⟩ : Addr).block from Nat.le_succ _) (.int .i64 (pq : Int)));have x0:=(zu HV10).cell (m:=0) rfl;have x1:=(zu HV10).cell (m:=1) rfl;have x2:=(zu HV10).cell (m:=2) rfl;have x3:=(zu HV10).cell (m:=3) rfl;have x4:=(zu HV10).cell (m:=4) rfl;have x5:=(zu HV10).cell (m:=5) rfl;have x6:=(zu HV10).cell (m:=6) rfl;have x7:=(zu HV10).cell (m:=7) rfl;have x8:=(zu HV10).cell (m:=8) rfl;have x9:=(zu HV10).cell (m:=9) rfl;have y0:=(zu HRA10).cell (m:=0) rfl
   have y1:=(zu HRA10).cell (m:=1) rfl;have y2:=(zu HRA10).cell (m:=2) rfl;have y3:=(zu HRA10).cell (m:=3) rfl;have y4:=(zu HRA10).cell (m:=4) rfl;have y5:=(zu HRA10).cell (m:=5) rfl;have y6:=(zu HRA10).cell (m:=6) rfl;have y7:=(zu HRA10).cell (m:=7) rfl;have y8:=(zu HRA10).cell (m:=8) rfl;have y9:=(zu HRA10).cell (m:=9) rfl;have fr:=(zu HRA10).frozen;have HZ:=hide (cell10 (zu HRA10) (.string ⟨#[]⟩) (.int .i64 (sd : Int)) (.int .i64 (q : Int)) (.int .i64 (pq : Int)) (.int .i64 h0) (.int .i64 h1) (.int .i64 h2) (.int .i64 h3) (.int .i64 h4) (.int .i64 h5))
   clear hb4 c2;go_wp2_with fail;have z0:=(zu HZ).cell (m:=0) rfl;have z1:=(zu HZ).cell (m:=1) rfl;have z2:=(zu HZ).cell (m:=2) rfl;have z3:=(zu HZ).cell (m:=3) rfl;have z4:=(zu HZ).cell (m:=4) rfl;have z5:=(zu HZ).cell (m:=5) rfl;have z6:=(zu HZ).cell (m:=6) rfl;have z7:=(zu HZ).cell (m:=7) rfl;have z8:=(zu HZ).cell (m:=8) rfl;have z9:=(zu HZ).cell (m:=9) rfl;refine bodyPost_ret (v:=fcV sd (q : Int) (pq : Int) ⟨h0,h1,h2,h3,h4,h5⟩) (by simp [results,Tryz.results81,go_sem,fcV,z0,z1,z2,z3,z4,z5,z6,z7,z8,z9];done) rfl ?_
   refine ⟨by rw [zu HL9,zu HQL,zu HPQ,zu HHQ],?_⟩;exact bel10 (zu HB10) (Nat.le_refl _) (.string ⟨#[]⟩) (.int .i64 (sd : Int)) (.int .i64 (q : Int)) (.int .i64 (pq : Int)) (.int .i64 h0) (.int .i64 h1) (.int .i64 h2) (.int .i64 h3) (.int .i64 h4) (.int .i64 h5)
end Go.Proofs.YtkiplmabjeadgaaGreat
