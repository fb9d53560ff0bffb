/- What building answers, plain. -/
import Derived.Test.YtkiplmabjeadgaaGreatBpFcR
import Derived.Test.YtkiplmabjeadgaaGreatFtToR
import Derived.Test.YtkiplmabjeadgaaGreatRhPR
import Derived.Test.YtkiplmabjeadgaaGreatBdF9R
import Derived.Test.YtkiplmabjeadgaaGreatStOpenR
namespace Go.Proofs.YtkiplmabjeadgaaGreat
set_option maxRecDepth 100000
set_option maxHeartbeats 16000000
open Go.ChangeShapes Go.WideShapes Go.ChangeAt Go.RowKit
set_option linter.unusedVariables false
set_option linter.unusedSimpArgs false
theorem times_any (x y z : Int) (n : Nat) (w : World) (hx : -24 ≤ x ∧ x ≤ 24) (hy : -24 ≤ y ∧ y ≤ 24) (hz : -24 ≤ z ∧ z ≤ 24) (hn : n ≤ 8) :
  Calls Tryz.prog 252 #[.agg #[.int .i64 x,.int .i64 y,.int .i64 z],.int .i64 (n : Int)] w fun e w' => e = .returned (.agg #[.int .i64 (x * n),.int .i64 (y * n),.int .i64 (z * n)]) ∧ Below w.heap.size w w':=by
 have k : ∀ a : Int,-24 ≤ a ∧ a ≤ 24 → IntKind.i64.wrap (a * (n : Int)) = a * n:=by
  intro a ha;refine wrap_i ?_ ?_
  ·have h1 : a * (n : Int) ≥ -24 * (n : Int):=Int.mul_le_mul_of_nonneg_right ha.1 (by omega)
   omega
  ·have h1 : a * (n : Int) ≤ 24 * (n : Int):=Int.mul_le_mul_of_nonneg_right ha.2 (by omega)
   omega
 have kx:=k x hx;have ky:=k y hy;have kz:=k z hz;clear k;go_enter Tryz.func252,Tryz.ntmps252;go_wp2_with fail;refine bodyPost_ret (v:=.agg #[.int .i64 (x * n),.int .i64 (y * n),.int .i64 (z * n)]) (by simp [results,Tryz.results252,go_sem];done) rfl ?_;refine ⟨rfl,?_⟩
 repeat (first | exact bfl _ _ | refine Below.setCell ?_ (Nat.le_refl _) _ | refine Below.setCell ?_ (by simp) _ | refine ba ?_ _)
theorem lowest_any (b : Bx) (w : World) : Calls Tryz.prog 154 #[bxv b] w fun e w' => e = .returned (.agg #[.int .i64 b.x0,.int .i64 b.y0,.int .i64 b.z0]) ∧ Below w.heap.size w w':=by
 obtain ⟨x0,y0,z0,x1,y1,z1⟩:=b;unfold bxv;simp only;go_enter Tryz.func154,Tryz.ntmps154;go_wp2_with fail;refine bodyPost_ret (v:=.agg #[.int .i64 x0,.int .i64 y0,.int .i64 z0]) (by simp [results,Tryz.results154,go_sem];done) rfl ?_;refine ⟨rfl,?_⟩
 repeat (first | exact bfl _ _ | refine Below.setCell ?_ (Nat.le_refl _) _ | refine Below.setCell ?_ (by simp) _ | refine ba ?_ _)
theorem bBoxes240_any (b : Bx) (w : World) : Calls Tryz.prog 247 #[bxv b] w fun e w' => (∃ g,e = .returned (.slice (some ⟨g,0,none⟩) 1 1) ∧ w.heap.size ≤ g ∧ vb w' g 41 (bxc b)) ∧ Below w.heap.size w w':=by
 obtain ⟨x0,y0,z0,x1,y1,z1⟩:=b;unfold bxv bxc;simp only;go_enter Tryz.func247,Tryz.ntmps247;go_wp2_with fail;go_ret;refine ⟨⟨_,rfl,Nat.le_succ _,vb_new _ 41 _ _ (by simp)⟩,ba (ba (bfl _ _) _) _⟩
theorem bBoxes241_any (b : Bx) (w : World) : Calls Tryz.prog 249 #[bxv b] w fun e w' => (∃ g,e = .returned (.slice (some ⟨g,0,none⟩) 1 1) ∧ w.heap.size ≤ g ∧ vb w' g 41 (bxc b)) ∧ Below w.heap.size w w':=by
 obtain ⟨x0,y0,z0,x1,y1,z1⟩:=b;unfold bxv bxc;simp only;go_enter Tryz.func249,Tryz.ntmps249;go_wp2_with fail;go_ret;refine ⟨⟨_,rfl,Nat.le_succ _,vb_new _ 41 _ _ (by simp)⟩,ba (ba (bfl _ _) _) _⟩
theorem bMoved240_any (b : Bx) (x y z : Int) (w : World) (hb : bxS 100000 b) (hx : -1000 ≤ x ∧ x ≤ 1000) (hy : -1000 ≤ y ∧ y ≤ 1000) (hz : -1000 ≤ z ∧ z ≤ 1000) : Calls Tryz.prog 248 #[bxv b,plv x y z] w fun e w' => e = .returned (.iface 240 (bxv (mvB b x y z))) ∧ Below w.heap.size w w':=by
 have HM:=hide (fun W => movedP_any b x y z W hb hx hy hz);clear hb hx hy hz
 obtain ⟨⟨m0,m1,m2,m3,m4,m5⟩,hm⟩ : ∃ q,mvB b x y z = q:=⟨_,rfl⟩
 rw [hm] at HM ⊢;clear hm;obtain ⟨x0,y0,z0,x1,y1,z1⟩:=b;unfold bxv plv at HM ⊢;simp only at HM ⊢;go_enter Tryz.func248,Tryz.ntmps248;go_wp2_with fail;refine (zu HM _).mono ?_;rintro e W ⟨rfl,hb⟩;have HB:=hide hb;clear hb;go_wp2_with fail;go_ret;exact ⟨rfl,bc (ba (ba (bfl _ _) _) _) (zu HB)⟩
theorem bMoved241_any (b : Bx) (x y z : Int) (w : World) (hb : bxS 100000 b) (hx : -1000 ≤ x ∧ x ≤ 1000) (hy : -1000 ≤ y ∧ y ≤ 1000) (hz : -1000 ≤ z ∧ z ≤ 1000) : Calls Tryz.prog 250 #[bxv b,plv x y z] w fun e w' => e = .returned (.iface 241 (bxv (mvB b x y z))) ∧ Below w.heap.size w w':=by
 have HM:=hide (fun W => movedP_any b x y z W hb hx hy hz);clear hb hx hy hz
 obtain ⟨⟨m0,m1,m2,m3,m4,m5⟩,hm⟩ : ∃ q,mvB b x y z = q:=⟨_,rfl⟩
 rw [hm] at HM ⊢;clear hm;obtain ⟨x0,y0,z0,x1,y1,z1⟩:=b;unfold bxv plv at HM ⊢;simp only at HM ⊢;go_enter Tryz.func250,Tryz.ntmps250;go_wp2_with fail;refine (zu HM _).mono ?_;rintro e W ⟨rfl,hb⟩;have HB:=hide hb;clear hb;go_wp2_with fail;go_ret;exact ⟨rfl,bc (ba (ba (bfl _ _) _) _) (zu HB)⟩
open Go.ChangeShapes Go.WideShapes Go.ChangeAt Go.RowKit Go.Maps Go.WideMaps
def sdN (fs : List Ft) (l : List ByteArray) : List Nat:=l.map fun s => (findN fs s).getD 0
def lup (G : List Nat) (k : Nat) (l : List Nat) : List Nat:=if G.contains k || l.any (fun p => G.contains p) then G ++ [k] else G
theorem lup_nil (n : Nat) (G : List Nat) (k : Nat) : bl n (lup G k []) = bl n G:=by
 apply bl_ext;intro i _;unfold lup
 cases hk : G.contains k
 ·rw [if_neg (by simp)]
 ·rw [if_pos (by simp),contains_snoc]
  by_cases e : i = k
  ·subst e;rw [hk];rfl
  ·have : (i == k) = false:=by simpa using e
   rw [this];simp
theorem lup_one {n : Nat} {G : List Nat} {k y : Nat} (h : k < n) : (bl n G).set k (.bool (G.contains k || G.contains y)) = bl n (lup G k [y]):=by
 unfold lup
 cases hb : (G.contains k || G.contains y)
 ·rw [if_neg (by simp only [List.any_cons,List.any_nil,Bool.or_false];rw [hb];simp)]
  have hk : G.contains k = false:=by cases e : G.contains k;rfl;rw [e] at hb;simp at hb
  have:=bl_same (o:=G) h;rw [hk] at this;exact this
 ·rw [if_pos (by simp only [List.any_cons,List.any_nil,Bool.or_false];exact hb)]
  exact bl_set h
theorem leftP_any (u u3 u4 uf : Option Addr) (n cu bm c3 c4 cf mf : Nat) (fs : List Ft) (off : List ByteArray) (w : World) (hl : fs.length = n) (hfine : Fine fs) (hm : MapOf w bm fs n) (hnm : NmAt w u3 (nms fs)) (hor : Inn w (.slice u4 n c4) (ord (nms fs))) (hof : off.length = mf) (hmf : mf ≤ 1048576) (hos : ∀ s ∈ off,s.size ≤ maxLen ∧ ∃ q,findN fs s = some q) (hst : StAt w uf off) :
  Calls Tryz.prog 85 #[.agg #[.slice u n cu,.map (some bm),.slice u3 n c3,.slice u4 n c4],.slice uf mf cf] w fun e w' => (∃ g,e = .returned (.slice (some ⟨g,0,none⟩) n n) ∧ w.heap.size ≤ g ∧ vb w' g 4 (bl n (lft (nms fs) (sdN fs off) (ord (nms fs))))) ∧ Below w.heap.size w w':=by
 have hn30 : n ≤ 30:=by have:=hfine.len;omega
 have hmk:=fun W => make_vals (P:=Tryz.prog) 95 4 1 n (.bool false) rfl Tryz.underlying95 info4 (by omega) (by omega) W
 rw [← bl_nil] at hmk;have HL:=hide hl;have HF:=hide hfine;have HM:=hide hm;have HNM:=hide hnm;have HOR:=hide hor;have HOF:=hide hof;have HOS:=hide hos;have HST:=hide hst;clear hl hfine hm hnm hor hof hos hst;have HC0:=hide ((vb_new w 135 [.slice u n cu,.map (some bm),.slice u3 n c3,.slice u4 n c4] _ rfl).bel (ba (bfl _ _) (.cells (bl n []).toArray 4)));have HV0:=hide (vb_new (w.alloc (.cells #[.slice u n cu,.map (some bm),.slice u3 n c3,.slice u4 n c4] 135)) 4 (bl n []) _ rfl)
 have HB0:=hide (ba (ba (bfl w.heap.size w) (.cells #[.slice u n cu,.map (some bm),.slice u3 n c3,.slice u4 n c4] 135)) (.cells (bl n []).toArray 4));simp only [World.size_alloc] at HV0;go_enter Tryz.func85,Tryz.ntmps85;go_wp2_with fail;clear hmk
 go_loopw [18] (fun s W => ∃ i : Nat,s = .int .i64 (i : Int) ∧ i ≤ mf ∧ vb W (w.heap.size + 1) 4 (bl n (sdN fs (off.take i))) ∧ vb W w.heap.size 135 [.slice u n cu,.map (some bm),.slice u3 n c3,.slice u4 n c4] ∧ Below w.heap.size w W) (fun s _ => mf - (intOf s).toNat)
 case atStart => exact ⟨0,rfl,Nat.zero_le _,zu HV0,zu HC0,zu HB0⟩
 case round =>
  obtain ⟨i,rfl,him,hvb,hcb,hw⟩:=hrel;rename World => W1
  have HV:=hide hvb;have HC:=hide hcb;have HW:=hide hw;have c1:=hcb.cell (m:=1) rfl;have c3':=hcb.cell (m:=3) rfl;clear hvb hcb hw HC0 HV0 HB0
  by_cases h : i < mf
  ·have i1 : (i : Int) < (mf : Int):=by omega
   have i0 : (0 : Int) ≤ (i : Int):=Int.natCast_nonneg _;have iz : decide ((i : Int) < (mf : Int)) = true:=dt i1;obtain ⟨s,hx⟩:=get_some (zu HOF) h;obtain ⟨hss,q,hq⟩:=zu HOS s (List.mem_of_getElem? hx)
   obtain ⟨gf,of',rfl,hgf,hcf⟩:=(zu HST) (by intro e;rw [e] at hx;cases hx)
   have k0 : W1.cell? ⟨gf,of' + i,none⟩ = some (.string s):=((zu HW).cell (p:=⟨gf,of' + i,none⟩) hgf).trans (hcf i s hx);have hlk:=((zu HM).bel (zu HW)).look1 (by rw [zu HL];exact Nat.le_refl _) (fun j g _ hg => twi_none' (zu HF).once j g hg) s hss;rw [List.take_of_length_le (by rw [zu HL];exact Nat.le_refl _)] at hlk;have hz : findZ fs s = (q : Int):=by unfold findZ;rw [hq]
   rw [hz] at hlk;have hqn : q < n:=by have:=findN_lt hq;rw [zu HL] at this;exact this
   have q1 : (q : Int) < (n : Int):=by omega
   have q0 : (0 : Int) ≤ (q : Int):=Int.natCast_nonneg _;have d0:=(zu HV).cell (bl_at (o:=sdN fs (off.take i)) hqn);have fz : ∀ z,W1.frozen? ⟨w.heap.size + 1,z,none⟩ = false:=(zu HV).frozen
   have hsd : sdN fs (off.take (i + 1)) = sdN fs (off.take i) ++ [q]:=by
    unfold sdN;rw [List.take_add_one,hx,List.map_append];simp [hq]
   have HSD:=hide hsd;clear hx hcf hz hsd hq;go_wp2_with fail;go_roundw
   case rel =>
    refine ⟨i + 1,by simp,h,?_,(zu HC).ne (by omega),Below.setCell (zu HW) (by show w.heap.size ≤ w.heap.size + 1;omega) _⟩;rw [zu HSD,← bl_set hqn];exact (zu HV).set q _
   case measure => simp only [intOf];omega
  ·have i1 : ¬ (i : Int) < (mf : Int):=by omega
   have iz : decide ((i : Int) < (mf : Int)) = false:=df i1;have hall : off.take i = off:=List.take_of_length_le (by rw [zu HOF];omega);rw [hall] at HV;clear hall;have hlo : (ord (nms fs)).length = n:=by rw [(zu HF).all];exact zu HL
   have HLO:=hide hlo;have hlt : ∀ x ∈ ord (nms fs),x < n:=by have:=wo_lt (nms fs) (nms fs).length;rw [nms_len,zu HL] at this;unfold ord;rw [nms_len,zu HL];exact this
   have HLT:=hide hlt;have HOI:=hide ((zu HOR).bel (zu HW));clear hlo hlt h;generalize hS : sdN fs off = S at *;generalize hP : ord (nms fs) = P at *;have HS9:=hide hS;have HP9:=hide hP;clear hS hP;go_wp2_with fail;clear iz i1
   go_loopw [32] (fun s W => ∃ i : Nat,s = .int .i64 (i : Int) ∧ i ≤ n ∧ vb W (w.heap.size + 1) 4 (bl n (lft (nms fs) S (P.take i))) ∧ vb W w.heap.size 135 [.slice u n cu,.map (some bm),.slice u3 n c3,.slice u4 n c4] ∧ Below w.heap.size w W) (fun s _ => n - (intOf s).toNat)
   case atStart => exact ⟨0,rfl,Nat.zero_le _,zu HV,zu HC,zu HW⟩
   case round =>
    obtain ⟨i,rfl,him,hvb,hcb,hw⟩:=hrel;clear HV HC HW c1 c3';rename World => W2
    have HV:=hide hvb;have HC:=hide hcb;have HW:=hide hw;have c2:=hcb.cell (m:=2) rfl;clear hvb hcb hw
    by_cases h : i < n
    ·have i1 : (i : Int) < (n : Int):=by omega
     have i0 : (0 : Int) ≤ (i : Int):=Int.natCast_nonneg _;have iz : decide ((i : Int) < (n : Int)) = true:=dt i1;obtain ⟨k,hk⟩:=get_some (zu HLO) h;have hkn:=zu HLT k (List.mem_of_getElem? hk);obtain ⟨u8,c8,e8,h8⟩:=zu HOR;have e9 : u4 = u8:=by injection e8
     subst e9;obtain ⟨go,oo,rfl,hgo,hio⟩:=h8 (by intro e;rw [e] at hk;cases hk);have k0:=(hio.below (zu HW) hgo) i _ (nats_at hk);have k1 : (k : Int) < (n : Int):=by omega
     have kz : (0 : Int) ≤ (k : Int):=Int.natCast_nonneg _;obtain ⟨l,hx⟩:=get_some (show (nms fs).length = n by rw [nms_len];exact zu HL) hkn;obtain ⟨gn,on,rfl,xv,xc,hcx,hin⟩:=((zu HNM).bel (zu HW)).at hx;have hll : l.length ≤ 1:=(zu HF).one.one l (List.mem_of_getElem? hx);have hlt2:=(zu HF).one.lt l (List.mem_of_getElem? hx);rw [nms_len,zu HL] at hlt2
     have hst : lft (nms fs) S (P.take (i + 1)) = lup (lft (nms fs) S (P.take i)) k l:=by
      rw [List.take_add_one,hk,Option.toList_some,lft_snoc];unfold lstep lup;rw [List.getD_eq_getElem?_getD,hx];rfl
     have HSTP:=hide hst;generalize lft (nms fs) S (P.take i) = G at *;have HIN:=hide hin;have HLT2:=hide hlt2;have HNK:=hide hx;have HKN:=hide hkn;clear hk e8 h8 hio hx hin hst hlt2;go_wp2_with fail;rename World => W2
     go_loopw [42] (fun s W => vb W w.heap.size 135 [.slice u n cu,.map (some bm),.slice (some ⟨gn,on,none⟩) n c3,.slice (some ⟨go,oo,none⟩) n c4] ∧ Below w.heap.size w W ∧ ((s = .int .i64 0 ∧ W = W2) ∨ (s = .int .i64 1 ∧ l.length = 1 ∧ vb W (w.heap.size + 1) 4 (bl n (lup G k l))))) (fun s _ => 1 - (intOf s).toNat)
     case atStart => exact ⟨zu HC,zu HW,.inl ⟨rfl,rfl⟩⟩
     case round =>
      obtain ⟨hcb,hw,⟨rfl,hww⟩ | ⟨rfl,hl1,hvb⟩⟩:=hrel
      ·subst hww
       rename World => W2
       clear hcb hw
       match l,hll with
       | [],_ =>
        have hv2:=zu HV;rw [← lup_nil n G k] at hv2;have HV2:=hide hv2;clear hv2;go_wp2_with fail;go_roundw
        case rel =>
         refine ⟨i + 1,by simp,h,?_,zu HC,zu HW⟩;rw [zu HSTP];exact zu HV2
        case measure => simp only [intOf];omega
       | [y],_ =>
        obtain ⟨bx,qx,rfl,hcell⟩:=zu HIN (by simp);have k2:=hcell 0 y rfl;have hyn:=zu HLT2 y (by simp);have y1 : (y : Int) < (n : Int):=by omega
        have y0 : (0 : Int) ≤ (y : Int):=Int.natCast_nonneg _;have dk:=(zu HV).cell (bl_at (o:=G) (zu HKN));have dy:=(zu HV).cell (bl_at (o:=G) hyn);have fz : ∀ z,W2.frozen? ⟨w.heap.size + 1,z,none⟩ = false:=(zu HV).frozen;have HV2:=hide ((zu HV).set k (.bool (G.contains k || G.contains y)));rw [lup_one (zu HKN)] at HV2;simp only [List.length_singleton,Nat.add_zero] at hcx k2;clear hcell;generalize G.contains k = bk at *;generalize G.contains y = by' at *
        cases bk
        ·go_wp2_with fail
         go_roundw
         case rel => exact ⟨(zu HC).ne (by omega),Below.setCell (zu HW) (by show w.heap.size ≤ w.heap.size + 1;omega) _,.inr ⟨rfl,rfl,zu HV2⟩⟩
         case measure => simp [intOf]
        ·go_wp2_with fail
         go_roundw
         case rel => exact ⟨(zu HC).ne (by omega),Below.setCell (zu HW) (by show w.heap.size ≤ w.heap.size + 1;omega) _,.inr ⟨rfl,rfl,zu HV2⟩⟩
         case measure => simp [intOf]
      ·rw [hl1]
       have HV2:=hide hvb;have HC2:=hide hcb;have HW2:=hide hw;clear hvb hcb hw;go_wp2_with fail;go_roundw
       case rel =>
        refine ⟨i + 1,by simp,h,?_,zu HC2,zu HW2⟩;rw [zu HSTP];exact zu HV2
       case measure => simp only [intOf];omega
    ·have i1 : ¬ (i : Int) < (n : Int):=by omega
     have iz : decide ((i : Int) < (n : Int)) = false:=df i1;have hall : P.take i = P:=List.take_of_length_le (by rw [zu HLO];omega);rw [hall] at HV;clear hall;go_wp2_with fail;go_ret;exact ⟨⟨_,rfl,by omega,by rw [zu HS9,zu HP9];exact zu HV⟩,zu HW⟩
theorem as240 (v : Value) (W : World) : (Instr.typeAssert (.iface 240 v) 189 245 true).run Tryz.prog W = .ok (.tuple #[.iface 240 v,.bool true]) W:=by kernel_rfl
theorem as241 (v : Value) (W : World) : (Instr.typeAssert (.iface 241 v) 189 245 true).run Tryz.prog W = .ok (.tuple #[.iface 241 v,.bool true]) W:=by kernel_rfl
theorem fi240 (v : Value) (W : World) : (Instr.typeAssert (.iface 240 v) 189 240 true).run Tryz.prog W = .ok (.tuple #[v,.bool true]) W:=by kernel_rfl
theorem fi241 (v : Value) (W : World) : (Instr.typeAssert (.iface 241 v) 189 240 true).run Tryz.prog W = .ok (.tuple #[.agg #[.int .i64 0,.int .i64 0,.int .i64 0,.int .i64 0,.int .i64 0,.int .i64 0],.bool false]) W:=by kernel_rfl
theorem fi243 (v : Value) (W : World) : (Instr.typeAssert (.iface 243 v) 189 240 true).run Tryz.prog W = .ok (.tuple #[.agg #[.int .i64 0,.int .i64 0,.int .i64 0,.int .i64 0,.int .i64 0,.int .i64 0],.bool false]) W:=by kernel_rfl
theorem fr241 (v : Value) (W : World) : (Instr.typeAssert (.iface 241 v) 189 243 true).run Tryz.prog W = .ok (.tuple #[.agg #[.nilIface,.int .i64 0,.int .i64 0,.int .i64 0,.int .i64 0],.bool false]) W:=by kernel_rfl
theorem fr243 (v : Value) (W : World) : (Instr.typeAssert (.iface 243 v) 189 243 true).run Tryz.prog W = .ok (.tuple #[v,.bool true]) W:=by kernel_rfl
theorem me248 (v : Value) (W : World) : (method 410 240 v "loop.example/g00056/impl.moved").run Tryz.prog W = .ok (248,v) W:=by kernel_rfl
theorem me250 (v : Value) (W : World) : (method 410 241 v "loop.example/g00056/impl.moved").run Tryz.prog W = .ok (250,v) W:=by kernel_rfl
theorem me247 (v : Value) (W : World) : (method 410 240 v "loop.example/g00056/impl.boxes").run Tryz.prog W = .ok (247,v) W:=by kernel_rfl
theorem me249 (v : Value) (W : World) : (method 410 241 v "loop.example/g00056/impl.boxes").run Tryz.prog W = .ok (249,v) W:=by kernel_rfl
theorem me251 (v : Value) (W : World) : (method 410 243 v "loop.example/g00056/impl.boxes").run Tryz.prog W = .ok (251,v) W:=by kernel_rfl
theorem workMoved_any (t : Nat) (b : Bx) (x y z : Int) (w : World) (ht : t = 240 ∨ t = 241) (hb : bxS 100000 b) (hx : -1000 ≤ x ∧ x ≤ 1000) (hy : -1000 ≤ y ∧ y ≤ 1000) (hz : -1000 ≤ z ∧ z ≤ 1000) :
  Calls Tryz.prog 153 #[.iface t (bxv b),plv x y z] w fun e w' => e = .returned (.iface t (bxv (mvB b x y z))) ∧ Below w.heap.size w w':=by
 rcases ht with rfl | rfl
 ·have has:=as240
  have hme:=me248;have HM:=hide (fun W => bMoved240_any b x y z W hb hx hy hz);clear hb hx hy hz
  obtain ⟨bv,hv⟩ : ∃ q,bxv b = q:=⟨_,rfl⟩
  rw [hv] at HM ⊢;unfold plv at HM ⊢;go_enter Tryz.func153,Tryz.ntmps153;go_wp2_with fail;refine (zu HM _).mono ?_;rintro e W ⟨rfl,hb⟩;have HB:=hide hb;clear hb;go_wp2_with fail;go_ret;exact ⟨rfl,bc (ba (bfl _ _) _) (zu HB)⟩
 ·have has:=as241
  have hme:=me250;have HM:=hide (fun W => bMoved241_any b x y z W hb hx hy hz);clear hb hx hy hz
  obtain ⟨bv,hv⟩ : ∃ q,bxv b = q:=⟨_,rfl⟩
  rw [hv] at HM ⊢;unfold plv at HM ⊢;go_enter Tryz.func153,Tryz.ntmps153;go_wp2_with fail;refine (zu HM _).mono ?_;rintro e W ⟨rfl,hb⟩;have HB:=hide hb;clear hb;go_wp2_with fail;go_ret;exact ⟨rfl,bc (ba (bfl _ _) _) (zu HB)⟩
theorem wo_full {nm : List (List Nat)} (h : (ord nm).length = nm.length) : ∀ i,i ≤ nm.length → (wo nm i).length = i:=by
 intro i
 induction i with
 | zero => intro _;rfl
 | succ i ih =>
  intro hi;have h1:=ih (by omega);obtain ⟨k,hk⟩:=wo_next h (by omega) h1;rw [wo_some hk];simp [h1]
theorem wo_more (nm : List (List Nat)) (i d : Nat) : ∃ T,wo nm (i + d) = wo nm i ++ T:=by
 induction d with
 | zero => exact ⟨[],by simp⟩
 | succ d ih =>
  obtain ⟨T,hT⟩:=ih;rw [← Nat.add_assoc]
  cases h : ff nm (wo nm (i + d)) with
  | none => rw [wo_none h _ (Nat.le_succ _)];exact ⟨T,hT⟩
  | some k => rw [wo_some h,hT];exact ⟨T ++ [k],by simp⟩
theorem ord_take {nm : List (List Nat)} (h : (ord nm).length = nm.length) {i : Nat} (hi : i ≤ nm.length) : (ord nm).take i = wo nm i:=by
 obtain ⟨T,hT⟩:=wo_more nm i (nm.length - i);rw [show i + (nm.length - i) = nm.length by omega] at hT;unfold ord;rw [hT,List.take_append_of_le_length (by rw [wo_full h i hi];exact Nat.le_refl _),List.take_of_length_le (by rw [wo_full h i hi];exact Nat.le_refl _)]
theorem ord_at {nm : List (List Nat)} (h : (ord nm).length = nm.length) {i k : Nat} (hi : i < nm.length) (hk : ff nm (wo nm i) = some k) : (ord nm)[i]? = some k:=by
 have h1:=ord_take h (i:=i + 1) hi;rw [wo_some hk] at h1
 have h2 : ((ord nm).take (i + 1))[i]? = some k:=by
  rw [h1,List.getElem?_append_right (by rw [wo_full h i (by omega)];exact Nat.le_refl _),wo_full h i (by omega),Nat.sub_self];rfl
 rw [List.getElem?_take,if_pos (by omega)] at h2;exact h2
def m1 (M : List Nat) (b : Bool) (k : Nat) : List Nat:=if b then M ++ [k] else M
theorem m1_set {n : Nat} {M : List Nat} {b : Bool} {k : Nat} (h : k < n) (hm : M.contains k = false) : (bl n M).set k (.bool b) = bl n (m1 M b k):=by
 unfold m1
 cases b
 ·have:=bl_same (o:=M) h
  rw [hm] at this;exact this
 ·exact bl_set h
theorem m1_has {M : List Nat} {b : Bool} {k : Nat} (hm : M.contains k = false) : (m1 M b k).contains k = b:=by
 unfold m1
 cases b
 ·exact hm
 ·rw [if_pos rfl,contains_snoc];simp
theorem m1_other {M : List Nat} {b : Bool} {k y : Nat} (h : y ≠ k) : (m1 M b k).contains y = M.contains y:=by
 unfold m1
 cases b
 ·rfl
 ·rw [if_pos rfl,contains_snoc];simp [h]
theorem mgo_bl {n : Nat} {nm : List (List Nat)} {sd : Nat → Bool} {M : List Nat} {k y : Nat} (hm : M.contains k = false) (hy : y ≠ k) (hn : nm.getD k [] = [y]) : bl n (lup (m1 M (sd k) k) k [y]) = bl n (mgo nm sd M k):=by
 apply bl_ext;intro i _;unfold lup mgo;rw [hn,m1_has hm];simp only [List.any_cons,List.any_nil,Bool.or_false];rw [m1_other hy]
 cases hs : sd k <;> cases hM : M.contains y <;> simp [m1]
theorem mgo_nil {nm : List (List Nat)} {sd : Nat → Bool} {M : List Nat} {k : Nat} (hn : nm.getD k [] = []) : m1 M (sd k) k = mgo nm sd M k:=by
 unfold m1 mgo;rw [hn];simp
def hasT (l : List ByteArray) (s : ByteArray) : Bool:=l.any fun t => sEq t s
theorem hasT_no {l : List ByteArray} {s : ByteArray} (h : ∀ (j : Nat) (t : ByteArray),l[j]? = some t → sEq t s = false) : hasT l s = false:=by
 unfold hasT;rw [List.any_eq_false];intro t ht;obtain ⟨j,hj,rfl⟩:=List.getElem_of_mem ht;rw [h j _ (List.getElem?_eq_getElem hj)];simp
theorem hasT_yes {l : List ByteArray} {s : ByteArray} {i : Nat} {t : ByteArray} (h : l[i]? = some t) (e : sEq t s = true) : hasT l s = true:=by
 unfold hasT;rw [List.any_eq_true];exact ⟨t,List.mem_of_getElem? h,e⟩
def sdB (fs : List Ft) (off : List ByteArray) (k : Nat) : Bool:=hasT off (fs.getD k ft0).nm
def lf (fs : List Ft) (off : List ByteArray) (k : Nat) : Bool:=(mrk (nms fs) (sdB fs off) (ord (nms fs))).contains k
theorem mgo_far {nm : List (List Nat)} {sd : Nat → Bool} {k : Nat} : ∀ (T M : List Nat),k ∉ T → (T.foldl (mgo nm sd) M).contains k = M.contains k
 | [],M,_ => rfl
 | x :: T,M,h => by
  rw [List.foldl_cons,mgo_far T _ (fun e => h (List.mem_cons_of_mem _ e))];unfold mgo
  split
  ·rw [contains_snoc]
   have : (k == x) = false:=by
    rw [beq_eq_false_iff_ne];intro e;subst e;exact h (List.mem_cons_self ..)
   rw [this,Bool.or_false]
  ·rfl
theorem ord_split {nm : List (List Nat)} {i : Nat} (hi : i ≤ nm.length) : ∃ T,ord nm = wo nm i ++ T:=by
 obtain ⟨T,hT⟩:=wo_more nm i (nm.length - i);exact ⟨T,by unfold ord;rw [← hT];congr 1;omega⟩
theorem lf_at {fs : List Ft} {off : List ByteArray} {i k : Nat} (hi : i < (nms fs).length) (hk : ff (nms fs) (wo (nms fs) i) = some k) : (mgo (nms fs) (sdB fs off) (mrk (nms fs) (sdB fs off) (wo (nms fs) i)) k).contains k = lf fs off k:=by
 obtain ⟨T,hT⟩:=ord_split (nm:=nms fs) (i:=i + 1) hi;have hnd:=wo_nodup (nms fs) (nms fs).length;have ho : wo (nms fs) (nms fs).length = ord (nms fs):=rfl;rw [ho,hT,wo_some hk,List.nodup_append] at hnd;unfold lf;rw [hT,wo_some hk];unfold mrk;rw [List.foldl_append,mgo_far T _ (fun e => hnd.2.2 k (by simp) k e rfl),List.foldl_append];rfl
theorem runB_snoc (fs : List Ft) (L : Nat → Bool) (l : List Nat) (k : Nat) (B : Bd) : runB fs L (l ++ [k]) B = match runB fs L l B with | .inl x => .inl x | .inr D => if L k = true then .inr D else doF fs D k:=by
 rw [runB_app]
 cases runB fs L l B with
 | inl x => rfl
 | inr D =>
  show (if L k = true then runB fs L [] D else match doF fs D k with | .inl x => .inl x | .inr B' => runB fs L [] B') = (if L k = true then .inr D else doF fs D k)
  by_cases h : L k = true
  ·rw [if_pos h,if_pos h]
   rfl
  ·rw [if_neg h,if_neg h]
   cases doF fs D k <;> rfl
def Bu (fs : List Ft) (off : List ByteArray) (c : Int) (ab : List ByteArray) (D : Option Bd) : Prop :=
 if 4096 < off.length then c = 2 ∧ ab = [] ∧ D = none
 else ∃ c0 ab0,Chk fs c0 ab0 ∧ ((c0 ≠ 0 ∧ c = c0 ∧ ab = ab0 ∧ D = none) ∨ (c0 = 0 ∧
  ((∃ (i : Nat) (s : ByteArray),off[i]? = some s ∧ findN fs s = none ∧ (∀ (j : Nat) (t : ByteArray),j < i → off[j]? = some t → findN fs t ≠ none) ∧ c = 6 ∧ ab = [s] ∧ D = none) ∨
  ((∀ s ∈ off,findN fs s ≠ none) ∧ ((∃ x,runB fs (lf fs off) (ord (nms fs)) bd0 = .inl x ∧ c = x.1 ∧ ab = x.2 ∧ D = none) ∨ (∃ B,runB fs (lf fs off) (ord (nms fs)) bd0 = .inr B ∧ c = 0 ∧ ab = [] ∧ D = some B))))))
theorem Bu.uniq {fs : List Ft} {off : List ByteArray} {c c' : Int} {ab ab' : List ByteArray} {D D' : Option Bd} (h : Bu fs off c ab D) (k : Bu fs off c' ab' D') : c = c' ∧ ab = ab' ∧ D = D':=by
 unfold Bu at h k
 split at h
 ·rename_i h0
  rw [if_pos h0] at k;exact ⟨h.1.trans k.1.symm,h.2.1.trans k.2.1.symm,h.2.2.trans k.2.2.symm⟩
 ·rename_i h0
  rw [if_neg h0] at k;obtain ⟨c0,ab0,hc,h⟩:=h;obtain ⟨c1,ab1,hc',k⟩:=k;obtain ⟨rfl,rfl⟩:=hc.uniq hc'
  rcases h with ⟨e0,rfl,rfl,rfl⟩ | ⟨e0,h⟩
  ·rcases k with ⟨_,rfl,rfl,rfl⟩ | ⟨e1,_⟩
   ·exact ⟨rfl,rfl,rfl⟩
   ·exact (e0 e1).elim
  ·rcases k with ⟨e1,_⟩ | ⟨_,k⟩
   ·exact (e1 e0).elim
   ·rcases h with ⟨i,s,hi,hs,hj,rfl,rfl,rfl⟩ | ⟨ha,h⟩
    ·rcases k with ⟨i',s',hi',hs',hj',rfl,rfl,rfl⟩ | ⟨ha,_⟩
     ·have : i = i':=by
       rcases Nat.lt_trichotomy i i' with e | e | e
       ·exact (hj' i s e hi hs).elim
       ·exact e
       ·exact (hj i' s' e hi' hs').elim
      subst this;rw [hi] at hi'
      cases hi'
      exact ⟨rfl,rfl,rfl⟩
     ·exact (ha s (List.mem_of_getElem? hi) hs).elim
    ·rcases k with ⟨i',s',hi',hs',_⟩ | ⟨_,k⟩
     ·exact (ha s' (List.mem_of_getElem? hi') hs').elim
     ·rcases h with ⟨x,hx,rfl,rfl,rfl⟩ | ⟨B,hB,rfl,rfl,rfl⟩
      ·rcases k with ⟨y,hy,rfl,rfl,rfl⟩ | ⟨B',hB',_⟩
       ·rw [hx] at hy;cases hy;exact ⟨rfl,rfl,rfl⟩
       ·rw [hx] at hB';cases hB'
      ·rcases k with ⟨y,hy,_⟩ | ⟨B',hB',rfl,rfl,rfl⟩
       ·rw [hB] at hy;cases hy
       ·rw [hB] at hB';cases hB';exact ⟨rfl,rfl,rfl⟩
end Go.Proofs.YtkiplmabjeadgaaGreat
