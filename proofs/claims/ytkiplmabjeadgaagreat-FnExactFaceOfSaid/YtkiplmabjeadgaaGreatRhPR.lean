/- Slices of texts: how great they are, copied. -/
import Derived.Test.YtkiplmabjeadgaaGreatFtToR
import Derived.Test.YtkiplmabjeadgaaGreatBdD35R
import Derived.Test.YtkiplmabjeadgaaGreatScPR
import Derived.Test.YtkiplmabjeadgaaGreatRtRR
import Derived.Test.YtkiplmabjeadgaaGreatBdF9R
import Derived.Test.YtkiplmabjeadgaaGreatNmAtR
namespace Go.Proofs.YtkiplmabjeadgaaGreat
set_option maxRecDepth 100000
set_option maxHeartbeats 16000000
open Go.ChangeShapes Go.WideShapes Go.ChangeAt Go.RowKit Go.Maps Go.WideMaps
set_option linter.unusedVariables false
set_option linter.unusedSimpArgs false
structure Ht (w W : World) (u : Option Addr) (n cu : Nat) (fs : List Ft) (k : Nat) (vn vo : Value) : Prop where
 res : vb W w.heap.size 135 [.slice none 0 0,.map none,.slice none 0 0,.slice none 0 0]
 hist : vb W (w.heap.size + 1 + 1) 135 [.slice u n cu,.map (some (w.heap.size + 1)),vn,vo]
 map : MapOf W (w.heap.size + 1) fs k
 bel : Below w.heap.size w W
theorem Ht.next {w W W' : World} {u : Option Addr} {n cu : Nat} {fs : List Ft} {k : Nat} {vn vo : Value} (h : Ht w W u n cu fs k vn vo) (hb : Below W.heap.size W W') : Ht w W' u n cu fs k vn vo :=
  ⟨h.res.bel hb,h.hist.bel hb,h.map.bel hb,bc h.bel hb⟩
def RhAns (u : Option Addr) (n cu : Nat) (fs : List Ft) (w : World) (e : Ending) (w' : World) : Prop :=
 (∃ b u3 n3 c3 u4 n4 c4 c v3 ab,e = .returned (.tuple #[.agg #[.slice u n cu,.map (some b),.slice u3 n3 c3,.slice u4 n4 c4],.int .i64 c,v3]) ∧ Chk fs c ab ∧ SRow w' w.heap.size v3 ab ∧
  (c = 0 → MapOf w' b fs n ∧ w.heap.size ≤ b ∧ (∃ N,w.heap.size ≤ N ∧ HalfB w' N (.slice u3 n3 c3) (nms fs)) ∧ Row w' w.heap.size 3 1 (.slice u4 n4 c4) (ord (nms fs)).length (nats (ord (nms fs))))) ∧ Below w.heap.size w w'
def put4 (W : World) (g : Nat) (a b c d : Value) : World:=(((W.setCell ⟨g,0,none⟩ a).setCell ⟨g,1,none⟩ b).setCell ⟨g,2,none⟩ c).setCell ⟨g,3,none⟩ d
theorem put4_bel {w W : World} (h : Below w.heap.size w W) (a b c d : Value) : Below w.heap.size w (put4 W w.heap.size a b c d):=Below.setCell (Below.setCell (Below.setCell (Below.setCell h (Nat.le_refl _) _) (Nat.le_refl _) _) (Nat.le_refl _) _) (Nat.le_refl _) _
theorem put4_size (W : World) (g : Nat) (a b c d : Value) : (put4 W g a b c d).heap.size = W.heap.size:=by simp [put4,World.setCell]
theorem res4 {W : World} {g t : Nat} {x y z q : Value} (h : vb W g t [x,y,z,q]) (a b c d : Value) (O : Obj) :
  (((((W.setCell ⟨g,0,none⟩ a).setCell ⟨g,1,none⟩ b).setCell ⟨g,2,none⟩ c).setCell ⟨g,3,none⟩ d).alloc O).cell? ⟨g,0,none⟩ = some a ∧ (((((W.setCell ⟨g,0,none⟩ a).setCell ⟨g,1,none⟩ b).setCell ⟨g,2,none⟩ c).setCell ⟨g,3,none⟩ d).alloc O).cell? ⟨g,1,none⟩ = some b ∧
  (((((W.setCell ⟨g,0,none⟩ a).setCell ⟨g,1,none⟩ b).setCell ⟨g,2,none⟩ c).setCell ⟨g,3,none⟩ d).alloc O).cell? ⟨g,2,none⟩ = some c ∧ (((((W.setCell ⟨g,0,none⟩ a).setCell ⟨g,1,none⟩ b).setCell ⟨g,2,none⟩ c).setCell ⟨g,3,none⟩ d).alloc O).cell? ⟨g,3,none⟩ = some d:=by
 have h4:=((((h.set 0 a).set 1 b).set 2 c).set 3 d).bel (ba (bfl _ _) O);exact ⟨h4.cell rfl,h4.cell rfl,h4.cell rfl,h4.cell rfl⟩
theorem put4_blk (W : World) (g : Nat) (a b c d : Value) {k : Nat} (h : k ≠ g) : (put4 W g a b c d).heap[k]? = W.heap[k]? :=
 (Below.heap_setCell _ _ _ _ h).trans ((Below.heap_setCell _ _ _ _ h).trans ((Below.heap_setCell _ _ _ _ h).trans (Below.heap_setCell _ _ _ _ h)))
theorem put4_vb {W : World} {g t : Nat} {x y z q : Value} (h : vb W g t [x,y,z,q]) (a b c d : Value) : vb (put4 W g a b c d) g t [a,b,c,d]:=(((h.set 0 a).set 1 b).set 2 c).set 3 d
theorem Bst_ex (s : Nat → Option Nat) : ∀ n,∃ b,Bst s n b:=by
 intro n
 induction n with
 | zero => exact ⟨[],rfl⟩
 | succ n ih =>
  obtain ⟨b,hb⟩:=ih
  by_cases h : ∃ L,First s n n L
  ·obtain ⟨L,f⟩:=h
   exact ⟨_,b,_,hb,.inl ⟨L,f,rfl⟩,rfl⟩
  ·exact ⟨_,b,_,hb,.inr ⟨fun L f => h ⟨L,f⟩,rfl⟩,rfl⟩
theorem rh_fault {w W1 : World} {u : Option Addr} {n cu : Nat} {fs : List Ft} {c : Int} {l : List ByteArray} (hc : Chk fs c l) (hc0 : c ≠ 0) (hb : Below w.heap.size w W1) (hl : l.length ≤ 4096) (a b d e : Value) (bm : Nat) (u3 u4 : Option Addr) (n3 c3 n4 c4 : Nat) (g m : Nat) (hg : g = W1.heap.size) (hm : m = l.length) :
  RhAns u n cu fs w (.returned (.tuple #[.agg #[.slice u n cu,.map (some bm),.slice u3 n3 c3,.slice u4 n4 c4],.int .i64 c,.slice (some ⟨g,0,none⟩) m m])) (((put4 W1 w.heap.size a b d e).alloc (.cells (strs l).toArray 9)).drew):=by
 subst hg;subst hm;have h4:=put4_bel hb a b d e;refine ⟨⟨_,_,_,_,_,_,_,_,_,l,rfl,hc,?_,fun h => (hc0 h).elim⟩,Below.drew (ba h4 _)⟩;exact vb.srow (w:=((put4 W1 w.heap.size a b d e).alloc (.cells (strs l).toArray 9)).drew) (vb_new (put4 W1 w.heap.size a b d e) 9 (strs l) _ (put4_size _ _ _ _ _ _).symm) hb.size hl
theorem readP_any (u : Option Addr) (p po n cu : Nat) (fs : List Ft) (w : World) (hl : fs.length = n) (hn : n ≤ 1048576) (hs : ∀ f ∈ fs,f.nm.size ≤ maxLen ∧ f.on.size ≤ maxLen ∧ f.ov.size ≤ maxLen) (hu : SlG ftc 15 w u p po fs) :
  Calls Tryz.prog 116 #[.slice u n cu] w (RhAns u n cu fs w):=by
 obtain ⟨iS,hj,hy0,hy1,hy2⟩:=info_parts info45;have HU:=hide hu;have HL:=hide hl;have HS:=hide hs;clear hu hl hs;have hmm:=@run_makeMap Tryz.prog
 by_cases hL : 4096 < n
 ·have d1 : decide ((4096 : Int) < (n : Int)) = true:=dt (by omega)
  go_enter Tryz.func116,Tryz.ntmps116;go_wp2_with fail;refine bodyPost_ret (v:=.tuple #[.agg #[.slice u n cu,.map (some (w.heap.size + 1)),.slice none 0 0,.slice none 0 0],.int .i64 2,.slice none 0 0]) (by simp [results,Tryz.results116,go_sem];done) rfl ?_;exact ⟨⟨_,_,_,_,_,_,_,_,_,[],rfl,chk_long (by rw [zu HL];exact hL),own_nil _ _ _ _,fun h => by cases h⟩,ba (ba (ba (bfl _ _) _) _) _⟩
 have d1 : decide ((4096 : Int) < (n : Int)) = false:=df (by omega)
 by_cases hM : 30 < n
 ·have d2 : decide ((30 : Int) < (n : Int)) = true:=dt (by omega)
  go_enter Tryz.func116,Tryz.ntmps116;go_wp2_with fail;refine bodyPost_ret (v:=.tuple #[.agg #[.slice u n cu,.map (some (w.heap.size + 1)),.slice none 0 0,.slice none 0 0],.int .i64 10,.slice none 0 0]) (by simp [results,Tryz.results116,go_sem];done) rfl ?_;exact ⟨⟨_,_,_,_,_,_,_,_,_,[],rfl,chk_many (by rw [zu HL];exact hL) (by rw [zu HL];exact hM),own_nil _ _ _ _,fun h => by cases h⟩,ba (ba (ba (bfl _ _) _) _) _⟩
 have d2 : decide ((30 : Int) < (n : Int)) = false:=df (by omega);have hM' : ¬ 30 < fs.length:=by rw [zu HL];exact hM
 have HM:=hide hM';clear hM'
 have h0 : Ht w (((w.alloc (.cells #[.slice none 0 0,.map none,.slice none 0 0,.slice none 0 0] 135)).alloc (.map #[] 0)).alloc (.cells #[.slice u n cu,.map (some (w.heap.size + 1)),.slice none 0 0,.slice none 0 0] 135)) u n cu fs 0 (.slice none 0 0) (.slice none 0 0):=by
  refine ⟨?_,?_,?_,ba (ba (ba (bfl _ _) _) _) _⟩
  ·exact ((vb_new w 135 [.slice none 0 0,.map none,.slice none 0 0,.slice none 0 0] _ rfl).bel (ba (bfl _ _) _)).bel (ba (bfl _ _) _)
  ·exact vb_new _ 135 [.slice u n cu,.map (some (w.heap.size + 1)),.slice none 0 0,.slice none 0 0] _ (by simp)
  ·exact MapOf.bel (w:=(w.alloc (.cells #[.slice none 0 0,.map none,.slice none 0 0,.slice none 0 0] 135)).alloc (.map #[] 0)) (by
    have h:=World.ownsMap_made (w.alloc (.cells #[.slice none 0 0,.map none,.slice none 0 0,.slice none 0 0] 135)) Tryz.prog 9 (plainElem (H:=Unit) Tryz.prog 3);rw [World.size_alloc] at h
    exact h) (ba (bfl _ _) _)
 have H0:=hide h0;clear h0;go_enter Tryz.func116,Tryz.ntmps116;go_wp2_with fail
 go_loopw [30] (fun s W => ∃ i : Nat,s = .int .i64 (i : Int) ∧ i ≤ n ∧ (∀ (j : Nat) (g : Ft),j < i → fs[j]? = some g → (!ftr g) = false) ∧ Ht w W u n cu fs 0 (.slice none 0 0) (.slice none 0 0)) (fun s _ => n - (intOf s).toNat)
 case atStart => exact ⟨0,rfl,Nat.zero_le _,fun j g hj => by omega,zu H0⟩
 case round =>
  obtain ⟨i,rfl,hil,hok,hht⟩:=hrel;rename World => W0
  have HK:=hide hok;have HT:=hide hht;clear hok hht H0
  by_cases h : i < n
  ·have i1 : (i : Int) < (n : Int):=by omega
   have i0 : (0 : Int) ≤ (i : Int):=Int.natCast_nonneg _;have iz : decide ((i : Int) < (n : Int)) = true:=dt i1;obtain ⟨f,hx⟩:=get_some (zu HL) h;obtain ⟨rfl,k0,k1,k2,k3,k4,k5,k6,k7,k8,k9,k10,k11,k12,k13,k14⟩:=((zu HU).bel (zu HT).bel).at15 hx;have HX:=hide hx;obtain ⟨s1,s2,s3⟩:=zu HS f (List.mem_of_getElem? hx);have HR:=hide (fun W => rightP_any f W s1 s2 s3);unfold ftv at HR;clear hx s1 s2 s3;generalize hft : ftr f = b at HR;have HFT:=hide hft;clear hft;go_wp2_with fail;refine (zu HR _).mono ?_;rintro e W1 ⟨rfl,hb⟩
   have ht1:=((zu HT).next (ba (bfl W0.heap.size W0) (.cells (ftc f).toArray 75))).next hb;have HT1:=hide ht1;have y0:=keep1 hb (b:=W0.heap.size) (o:=0) (v:=.string f.nm) (by simp [go_sem]);have h0:=ht1.hist.cell (m:=0) rfl;have h1:=ht1.hist.cell (m:=1) rfl;have h2:=ht1.hist.cell (m:=2) rfl;have h3:=ht1.hist.cell (m:=3) rfl;have r0:=ht1.res.cell (m:=0) rfl;have r1:=ht1.res.cell (m:=1) rfl;have r2:=ht1.res.cell (m:=2) rfl;have r3:=ht1.res.cell (m:=3) rfl;have fz : ∀ o,W1.frozen? ⟨w.heap.size,o,none⟩ = false:=ht1.res.frozen;have hlr:=ht1.res.lt
   have hlh:=ht1.hist.lt;have hlw:=(zu HT).hist.lt;have hne : W0.heap.size ≠ w.heap.size:=by omega
   have hne' : w.heap.size ≠ W0.heap.size:=by omega
   have hy0:=cell_lt y0;clear hb k0 k1 k2 k3 k4 k5 k6 k7 k8 k9 k10 k11 k12 k13 k14 ht1
   cases b
   ·have HCK:=hide (chk_bad (zu HM) (find_first (zu HX) (by rw [zu HFT];rfl) (zu HK)))
    go_wp2_with fail
    go_region
    go_wp2_with fail;obtain ⟨z0,z1,z2,z3⟩:=res4 (zu HT1).res (.slice (some ⟨p,po,none⟩) n cu) (.map (some (w.heap.size + 1))) (.slice none 0 0) (.slice none 0 0) (.cells #[.string f.nm] 9);refine bodyPost_ret (v:=.tuple #[.agg #[.slice (some ⟨p,po,none⟩) n cu,.map (some (w.heap.size + 1)),.slice none 0 0,.slice none 0 0],.int .i64 1,.slice (some ⟨W1.heap.size,0,none⟩) 1 1]) (by simp [results,Tryz.results116,go_sem,z0,z1,z2,z3];done) rfl ?_;exact rh_fault (zu HCK) (by decide) (zu HT1).bel (by simp) _ _ _ _ _ _ _ _ _ _ _ _ _ rfl rfl
   ·clear h0 h1 h2 h3 r0 r1 r2 r3 y0 fz
    go_wp2_with fail;go_roundw
    case rel =>
     refine ⟨i + 1,by simp,h,?_,zu HT1⟩;intro j g hj hg
     by_cases e : j = i
     ·subst e
      rw [zu HX] at hg
      cases hg
      rw [zu HFT];rfl
     ·exact zu HK j g (by omega) hg
    case measure => simp only [intOf];omega
  ·have i1 : ¬ (i : Int) < (n : Int):=by omega
   have iz : decide ((i : Int) < (n : Int)) = false:=df i1;have hbad : fs.find? (fun f => !ftr f) = none:=find_none fun j g hg => zu HK j g (by have:=(List.getElem?_eq_some_iff.1 hg).1;rw [zu HL] at this;omega) hg
   have HBD:=hide hbad;clear hbad HK h;go_wp2_with fail;clear iz i1
   go_loopw [44] (fun s W => ∃ i : Nat,s = .int .i64 (i : Int) ∧ i ≤ n ∧ (∀ (j : Nat) (g : Ft),j < i → fs[j]? = some g → findN (fs.take j) g.nm = none) ∧ Ht w W u n cu fs i (.slice none 0 0) (.slice none 0 0)) (fun s _ => n - (intOf s).toNat)
   case atStart => exact ⟨0,rfl,Nat.zero_le _,fun j g hj => by omega,zu HT⟩
   case round =>
    obtain ⟨i,rfl,hil,hok,hht⟩:=hrel;clear HT;rename World => W0
    have HK:=hide hok;have HT:=hide hht;clear hok hht
    by_cases h : i < n
    ·have i1 : (i : Int) < (n : Int):=by omega
     have i0 : (0 : Int) ≤ (i : Int):=Int.natCast_nonneg _;have iz : decide ((i : Int) < (n : Int)) = true:=dt i1;obtain ⟨f,hx⟩:=get_some (zu HL) h;obtain ⟨rfl,k0,k1,k2,k3,k4,k5,k6,k7,k8,k9,k10,k11,k12,k13,k14⟩:=((zu HU).bel (zu HT).bel).at15 hx;have HX:=hide hx;obtain ⟨s1,s2,s3⟩:=zu HS f (List.mem_of_getElem? hx)
     have ht1:=(zu HT).next (ba (bfl W0.heap.size W0) (.cells #[.string f.nm,.string f.on,.string f.ov,.int .i64 f.kd,.int .i64 f.sd,.int .i64 f.x0,.int .i64 f.y0,.int .i64 f.z0,.int .i64 f.x1,.int .i64 f.y1,.int .i64 f.z1,.int .i64 f.ct,.int .i64 f.dx,.int .i64 f.dy,.int .i64 f.dz] 75));have hlk:=ht1.map.look (by rw [zu HL];omega) (zu HK) f.nm s1;have HT1:=hide ht1;have h0:=ht1.hist.cell (m:=0) rfl;have h1:=ht1.hist.cell (m:=1) rfl;have h2:=ht1.hist.cell (m:=2) rfl;have h3:=ht1.hist.cell (m:=3) rfl;have hlw:=(zu HT).hist.lt
     have hne : W0.heap.size ≠ w.heap.size:=by omega
     have hne' : w.heap.size ≠ W0.heap.size:=by omega
     have hkey : keyOf Tryz.prog 9 (.string f.nm) = some (keyL f.nm):=keyOf_string_mk Tryz.underlying9 s1;clear hx s2 s3
     cases hq : findN (fs.take i) f.nm with
     | none =>
      rw [hq] at hlk;simp only [Option.isSome_none] at hlk;have HQ:=hide hq;have hval : plainElem (H:=Unit) Tryz.prog 3 (.int .i64 (i : Int)) = some (.lit (.int .i64 (i : Int)),[]):=plainElem_int Tryz.underlying3 (by simp [Lit.wf,IntKind.min,IntKind.max,IntKind.bits,IntKind.signed];omega);have hownA:=ht1.map;unfold MapOf at hownA;have HGD:=hide (getD_at (zu HX));clear hq ht1
      go_wp2_with (first
       | (at_mapUpdate;refine wpList_mapUpdate_own _ rfl _ _ _ 82 rfl 9 3 lawK Tryz.underlying82 (plainElem (H:=Unit) Tryz.prog 3) (w.heap.size + 1) i _ rfl hownA (by unfold maxLen;omega) _ _ _ rfl rfl hkey _ [] hval ?_;intro w1 hown1 hgrow1)
       | go_in)
      have ht2 : Ht w w1 (some ⟨p,po,none⟩) n cu fs (i + 1) (.slice none 0 0) (.slice none 0 0):=by
       have hr:=(zu HT1).res;have hh:=(zu HT1).hist;refine ⟨(hgrow1.block _ hr.lt (by intro e;simp only [Option.some.injEq] at e;omega)).trans hr,(hgrow1.block _ hh.lt (by intro e;simp only [Option.some.injEq] at e;omega)).trans hh,?_,?_⟩
       ·show w1.ownsMap Tryz.prog 9 (plainElem (H:=Unit) Tryz.prog 3) (w.heap.size + 1) (i + 1) ((Dn fs i).put (keyL (fs.getD i ft0).nm) (.lit (.int .i64 (i : Int))))
        rw [zu HGD];exact hown1
       ·exact (zu HT1).bel.grown hgrow1 (zu HT1).bel.size (fun g hg => by simp only [Option.some.injEq] at hg;omega)
      have HT2:=hide ht2;clear hown1 hgrow1 ht2 hownA hlk h0 h1 h2 h3 k0 k1 k2 k3 k4 k5 k6 k7 k8 k9 k10 k11 k12 k13 k14 hval hkey;go_wp2_with fail;go_roundw
      case rel =>
       refine ⟨i + 1,by simp,h,?_,zu HT2⟩;intro j g hj hg
       by_cases e : j = i
       ·subst e
        rw [zu HX] at hg
        cases hg
        exact zu HQ
       ·exact zu HK j g (by omega) hg
      case measure => simp only [intOf];omega
     | some q =>
      rw [hq] at hlk;simp only [Option.isSome_some] at hlk;have HCK:=hide (chk_twice (zu HM) (zu HBD) (twi_some (zu HX) (by rw [hq];simp) (zu HK)));clear hq hkey;go_wp2_with fail;have ht1':=ht1;have r0:=ht1.res.cell (m:=0) rfl;have r1:=ht1.res.cell (m:=1) rfl;have r2:=ht1.res.cell (m:=2) rfl;have r3:=ht1.res.cell (m:=3) rfl;have fz:=ht1.res.frozen
      have y0 : (W0.alloc (.cells #[.string f.nm,.string f.on,.string f.ov,.int .i64 f.kd,.int .i64 f.sd,.int .i64 f.x0,.int .i64 f.y0,.int .i64 f.z0,.int .i64 f.x1,.int .i64 f.y1,.int .i64 f.z1,.int .i64 f.ct,.int .i64 f.dx,.int .i64 f.dy,.int .i64 f.dz] 75)).cell? ⟨W0.heap.size,0,none⟩ = some (.string f.nm):=by simp [go_sem]
      have hy0:=cell_lt y0;have hlr:=ht1.res.lt;have hlh:=ht1.hist.lt;clear ht1 ht1' hlk k0 k1 k2 k3 k4 k5 k6 k7 k8 k9 k10 k11 k12 k13 k14;generalize hW1 : W0.alloc (.cells #[.string f.nm,.string f.on,.string f.ov,.int .i64 f.kd,.int .i64 f.sd,.int .i64 f.x0,.int .i64 f.y0,.int .i64 f.z0,.int .i64 f.x1,.int .i64 f.y1,.int .i64 f.z1,.int .i64 f.ct,.int .i64 f.dx,.int .i64 f.dy,.int .i64 f.dz] 75) = W1 at *;have hsz1 : W1.heap.size = W0.heap.size + 1:=by rw [← hW1];simp
      have HSZ1:=hide hsz1;clear hW1 hsz1
      go_region
      go_wp2_with fail;obtain ⟨z0,z1,z2,z3⟩:=res4 (zu HT1).res (.slice (some ⟨p,po,none⟩) n cu) (.map (some (w.heap.size + 1))) (.slice none 0 0) (.slice none 0 0) (.cells #[.string f.nm] 9);refine bodyPost_ret (v:=.tuple #[.agg #[.slice (some ⟨p,po,none⟩) n cu,.map (some (w.heap.size + 1)),.slice none 0 0,.slice none 0 0],.int .i64 7,.slice (some ⟨W1.heap.size,0,none⟩) 1 1]) (by simp [results,Tryz.results116,go_sem,z0,z1,z2,z3];done) rfl ?_;exact rh_fault (zu HCK) (by decide) (zu HT1).bel (by simp) _ _ _ _ _ _ _ _ _ _ _ _ _ rfl rfl
    ·have i1 : ¬ (i : Int) < (n : Int):=by omega
     have iz : decide ((i : Int) < (n : Int)) = false:=df i1;have hin : n = i:=by omega
     subst hin;have htw : twi fs = none:=twi_none fun j g hg => zu HK j g (by have:=(List.getElem?_eq_some_iff.1 hg).1;rw [zu HL] at this;omega) hg
     have HTW:=hide htw;have HWL:=hide (zu HT).hist.lt;clear htw HK h hil;go_wp2_with fail;clear iz i1
     go_loopw [70] (fun s W => ∃ (i : Nat) (vn : Value),s = .int .i64 (i : Int) ∧ i ≤ n ∧ (∀ (j : Nat) (g : Ft),j < i → fs[j]? = some g → wrg fs g = none) ∧ Ht w W u n cu fs n vn (.slice none 0 0) ∧ HalfB W W0.heap.size vn ((nms fs).take i) ∧ W0.heap.size ≤ W.heap.size) (fun s _ => n - (intOf s).toNat)
     case atStart => exact ⟨0,_,rfl,Nat.zero_le _,fun j g hj => by omega,zu HT,⟨[],own_nil _ _ _ _,fun j l hj => by simp at hj⟩,Nat.le_refl _⟩
     case round =>
      obtain ⟨i,vn,rfl,hil,hok,hht,hhalf,hsz⟩:=hrel;clear HT;rename World => Wa
      have HK:=hide hok;have HT:=hide hht;have HH:=hide hhalf;have hnl : ((nms fs).take i).length = i:=by rw [List.length_take];unfold nms;rw [List.length_map,zu HL];omega
      obtain ⟨vs0,hvs0,hvs1⟩:=hhalf;obtain ⟨un,cn,rfl,_,_,hvs2⟩:=own_form hvs0;clear hvs0 hvs1 hvs2;rw [hnl] at HT HH;clear hok hht
      by_cases h : i < n
      ·have i1 : (i : Int) < (n : Int):=by omega
       have i0 : (0 : Int) ≤ (i : Int):=Int.natCast_nonneg _;have iz : decide ((i : Int) < (n : Int)) = true:=dt i1;obtain ⟨f,hx⟩:=get_some (zu HL) h;have h1o:=ftr_one (by have:=find_not (zu HBD) (List.mem_of_getElem? hx);simpa using this);have ht1:=(zu HT).next (ba (bfl Wa.heap.size Wa) (.cells #[.string f.nm,.string f.on,.string f.ov,.int .i64 f.kd,.int .i64 f.sd,.int .i64 f.x0,.int .i64 f.y0,.int .i64 f.z0,.int .i64 f.x1,.int .i64 f.y1,.int .i64 f.z1,.int .i64 f.ct,.int .i64 f.dx,.int .i64 f.dy,.int .i64 f.dz] 75))
       have HNB:=hide (namedP_any u un none p po n cu (w.heap.size + 1) i cn 0 0 fs f _ (zu HL) (by omega) ((zu HU).bel ht1.bel) ht1.map (zu HTW) (by have:=zu HS f (List.mem_of_getElem? hx);exact this.2) h1o);unfold ftv at HNB;obtain ⟨rfl,k0,k1,k2,k3,k4,k5,k6,k7,k8,k9,k10,k11,k12,k13,k14⟩:=((zu HU).bel (zu HT).bel).at15 hx;have HX:=hide hx;have HT1:=hide ht1;have h0:=ht1.hist.cell (m:=0) rfl;have h1:=ht1.hist.cell (m:=1) rfl;have h2:=ht1.hist.cell (m:=2) rfl;have h3:=ht1.hist.cell (m:=3) rfl
       have HH1:=hide ((zu HH).bel (ba (bfl Wa.heap.size Wa) (.cells #[.string f.nm,.string f.on,.string f.ov,.int .i64 f.kd,.int .i64 f.sd,.int .i64 f.x0,.int .i64 f.y0,.int .i64 f.z0,.int .i64 f.x1,.int .i64 f.y1,.int .i64 f.z1,.int .i64 f.ct,.int .i64 f.dx,.int .i64 f.dy,.int .i64 f.dz] 75)));clear hx h1o ht1;go_wp2_with fail;refine (zu HNB).mono ?_;rintro e W2 ⟨⟨va,rfl,⟨ua,na,ca,rfl⟩,hrow⟩,hb⟩;have ht2:=(zu HT1).next hb;have HT2:=hide ht2;have HH2:=hide ((zu HH1).bel hb);have y0:=keep1 hb (b:=Wa.heap.size) (o:=0) (v:=.string f.nm) (by simp [go_sem])
       have HROW:=hide hrow;have HSZ2 : Hid (W0.heap.size ≤ W2.heap.size ∧ Wa.heap.size < W2.heap.size):=hide ⟨by have:=hb.size;simp at this;omega,by have:=hb.size;simp at this;omega⟩;clear hb hrow k0 k1 k2 k3 k4 k5 k6 k7 k8 k9 k10 k11 k12 k13 k14 h0 h1 h2 h3;have h0:=ht2.hist.cell (m:=0) rfl;have h1:=ht2.hist.cell (m:=1) rfl;have h2:=ht2.hist.cell (m:=2) rfl;have h3:=ht2.hist.cell (m:=3) rfl
       cases hw : wrg fs f with
       | some sq =>
        have HCK:=hide (chk_name (zu HM) (zu HBD) (zu HTW) (find_first (zu HX) (by rw [hw];rfl) (fun j g hj hg => by rw [zu HK j g hj hg];rfl)));rw [hw] at HCK;simp only [Option.getD_some] at HCK;have r0:=ht2.res.cell (m:=0) rfl;have r1:=ht2.res.cell (m:=1) rfl;have r2:=ht2.res.cell (m:=2) rfl;have r3:=ht2.res.cell (m:=3) rfl;have fz : ∀ o,W2.frozen? ⟨w.heap.size,o,none⟩ = false:=ht2.res.frozen;have hlw:=(zu HT).hist.lt;have hne : Wa.heap.size ≠ w.heap.size:=by omega
        have hne' : w.heap.size ≠ Wa.heap.size:=by omega
        have hy0:=cell_lt y0;have hlr:=ht2.res.lt;have hlh:=ht2.hist.lt;simp only [Option.getD_some,Option.isSome_some,if_true];clear ht2 hw;go_wp2_with fail
        go_region
        go_wp2_with fail;obtain ⟨z0,z1,z2,z3⟩:=res4 (zu HT2).res (.slice (some ⟨p,po,none⟩) n cu) (.map (some (w.heap.size + 1))) (.slice un i cn) (.slice none 0 0) (.cells #[.string f.nm,.string sq] 9);refine bodyPost_ret (v:=.tuple #[.agg #[.slice (some ⟨p,po,none⟩) n cu,.map (some (w.heap.size + 1)),.slice un i cn,.slice none 0 0],.int .i64 6,.slice (some ⟨W2.heap.size,0,none⟩) 2 2]) (by simp [results,Tryz.results116,go_sem,z0,z1,z2,z3];done) rfl ?_;exact rh_fault (zu HCK) (by decide) (zu HT2).bel (by simp) _ _ _ _ _ _ _ _ _ _ _ _ _ rfl rfl
       | none =>
        have hrow:=zu HROW hw;simp only [Option.getD_none,Option.isSome_none,Bool.false_eq_true,if_false];have HNO:=hide hw;clear hw
        have hna : na = (nmd fs f).length:=by
         obtain ⟨u9,c9,e9,_⟩:=own_form hrow;injection e9
        subst hna;obtain ⟨vs,hvs,hvi⟩:=zu HH2;rw [hnl] at hvs;have HVS:=hide hvs;have HVI:=hide hvi;clear hvs hvi;have HRW:=hide hrow;have fz : ∀ o,W2.frozen? ⟨w.heap.size + 1 + 1,o,none⟩ = false:=ht2.hist.frozen;clear ht2 hrow y0
        go_wp2_with (at_builtin;refine zu ?_)
        refine hide ?_;refine wpList_append_new _ rfl _ _ 122 rfl W0.heap.size 94 iS _ 1 24 Tryz.underlying122 hj hy0 hy1 hy2 rfl (by decide) _ i vs rfl ((zu HVS).alloc _) _ 1 1 ([.slice ua (nmd fs f).length ca]) rfl rfl (by first | exact news_cells _ _ rfl | exact news_cells _ _ (by simp)) (by intro u hu;simp only [List.mem_singleton] at hu;subst hu;rfl) (by unfold maxLen;omega) (by omega) (Nat.le_trans (zu HSZ2).1 (by simp)) ?_;intro v' w1 hown' hgrow _ hnew;have hal : Below W2.heap.size W2 (W2.alloc (.cells #[.slice ua (nmd fs f).length ca] 94)):=ba (bfl _ _) _
        have hva : InnB W0.heap.size (Value.slice un i cn).ownBlock W2 (.slice ua (nmd fs f).length ca) (nmd fs f):=by
         refine ⟨ua,ca,rfl,fun h0 => ?_⟩;obtain ⟨u9,c9,e9,_,_,h9⟩:=own_form (zu HRW);have e10 : ua = u9:=by injection e9
         subst e10;obtain ⟨g,rfl,hg1,hg2,hg3⟩:=h9 (by intro e;exact h0 (List.eq_nil_of_length_eq_zero e));have hg1' : Wa.heap.size + 1 + 2 ≤ g:=by simpa using hg1
         refine ⟨g,0,rfl,by omega,hg2,?_,?_⟩
         ·intro e
          have h10:=(by obtain ⟨vs1,h11,_⟩:=zu HH;exact (own_ge h11 g e.symm).2 : g < Wa.heap.size)
          omega
         ·intro j z hj'
          rw [Nat.zero_add];apply hg3;rw [natV_nats,List.getElem?_map,hj'];rfl
        have hhalf:=half_more hnl (zu HVS) (zu HVI) hown' hal hgrow hnew hva;have hwl:=zu HWL;have hgb : ∀ g,(Value.slice un i cn).ownBlock = some g → W0.heap.size ≤ g:=fun g hg => (own_ge (zu HVS) g hg).1
        have ht3 : Ht w w1 (some ⟨p,po,none⟩) n cu fs n (.slice un i cn) (.slice none 0 0):=by
         have hA:=(zu HT2).next hal;have hb3 : Below W0.heap.size (W2.alloc (.cells #[.slice ua (nmd fs f).length ca] 94)) w1:=(bfl _ _).grown hgrow (Nat.le_trans (zu HSZ2).1 (by simp)) hgb;exact ⟨hA.res.below hb3 (by omega),hA.hist.below hb3 (by omega),hA.map.blk (hb3.block _ (by omega)),hA.bel.trans (hb3.mono (by omega))⟩
        have hni : (nms fs)[i]? = some (nmd fs f):=by unfold nms;rw [List.getElem?_map,zu HX];rfl
        have HHF:=hide hhalf;have HT3:=hide ht3;have hsz3 : W0.heap.size ≤ w1.heap.size:=Nat.le_trans (zu HSZ2).1 (Nat.le_trans hal.size hgrow.size);obtain ⟨u7,c7,rfl,_⟩:=own_form hown';have q2:=ht3.hist.cell (m:=2) rfl;have fz3 : ∀ o,w1.frozen? ⟨w.heap.size + 1 + 1,o,none⟩ = false:=ht3.hist.frozen;clear hown' hgrow hnew hal hva hhalf ht3 h0 h1 h2 h3 fz;go_wp2_with fail;go_roundw
        case rel =>
         refine ⟨i + 1,.slice u7 (i + 1) c7,by simp,h,?_,?_,?_,by simpa [World.setCell] using hsz3⟩
         ·intro j g hj' hg
          by_cases e : j = i
          ·subst e
           rw [zu HX] at hg
           cases hg
           exact zu HNO
          ·exact zu HK j g (by omega) hg
         ·have hA:=zu HT3
          exact ⟨hA.res.ne (by omega),hA.hist.set 2 _,hA.map.blk (Below.heap_setCell _ _ _ _ (by show w.heap.size + 1 ≠ w.heap.size + 1 + 1;omega)),Below.setCell hA.bel (by show w.heap.size ≤ w.heap.size + 1 + 1;omega) _⟩
         ·have:=(zu HHF).set (g:=w.heap.size + 1 + 1) (o:=2) (x:=.slice u7 (i + 1) c7) (by omega)
          rw [List.take_add_one,hni];exact this
        case measure => simp only [intOf];omega
      ·have i1 : ¬ (i : Int) < (n : Int):=by omega
       have iz : decide ((i : Int) < (n : Int)) = false:=df i1;have hin : n = i:=by omega
       subst hin
       have hwn : ∀ f ∈ fs,wrg fs f = none:=by
        intro f hf;obtain ⟨j,hj',rfl⟩:=List.getElem_of_mem hf;exact zu HK j _ (by rw [zu HL] at hj';exact hj') (List.getElem?_eq_getElem hj')
       have hone:=nms_one (fun f hf => by have:=find_not (zu HBD) hf;simpa using this) hwn;have hnlen : (nms fs).length = n:=by rw [nms_len];exact zu HL
       have hh:=zu HH;rw [List.take_of_length_le (by omega)] at hh;have HH1:=hide hh;have HON:=hide hone;have HNL:=hide hnlen;obtain ⟨u9,c9,e9,hnat⟩:=hh.nmS;have e10 : un = u9:=by injection e9
       subst e10;have HNT:=hide hnat;have hCK : ∀ b,Bst (sc (nms fs)) n b → Chk fs (if b = [] then 0 else 9) (b.map (fun i => (fs.getD i ft0).nm)):=fun b hb => chk_end (zu HM) (zu HBD) (zu HTW) (find_none fun j g hg => by rw [hwn g (List.mem_of_getElem? hg)];rfl) (by rw [zu HL];exact hb)
       have HCK:=hide hCK
       have hOA : ∀ b,Bst (sc (nms fs)) n b → (b = [] ↔ (ord (nms fs)).length = n):=fun b hb => by
        have h9:=ord_all hone (b:=b) (by rw [hnlen];exact hb);rw [hnlen] at h9;exact h9
       have HOA:=hide hOA;have hole : (ord (nms fs)).length ≤ n:=by have:=wo_len (nms fs) (nms fs).length;rw [hnlen] at this;unfold ord;rw [hnlen];exact this
       have HWO:=hide (workP_any un n cn (nms fs) Wa hnlen (by omega) hnat (fun l h => ⟨by have:=hone.one l h;omega,by have:=hone.lt l h;rw [hnlen] at this;exact this⟩));have ht:=zu HT;have h2:=ht.hist.cell (m:=2) rfl;clear hwn hone hnlen hh HH HK h e9 hnat hCK hOA ht hnl;go_wp2_with fail;refine (zu HWO).mono ?_;rintro e W2 ⟨vo,rfl,hrow,hb⟩;obtain ⟨uo,co,rfl,_⟩:=hrow.form;have ht2:=(zu HT).next hb;have HT2:=hide ht2;have HR2:=hide hrow;have HH2:=hide ((zu HH1).bel hb);have HNT2:=hide ((zu HNT).bel hb);have HWA:=hide (zu HT).bel.size
       have q3:=ht2.hist.cell (m:=3) rfl;have fz3 : ∀ o,W2.frozen? ⟨w.heap.size + 1 + 1,o,none⟩ = false:=ht2.hist.frozen;have hWaH:=(zu HT).hist.lt
       have ht3 : Ht w (W2.setCell ⟨w.heap.size + 1 + 1,3,none⟩ (.slice uo (ord (nms fs)).length co)) u n cu fs n (.slice un n cn) (.slice uo (ord (nms fs)).length co) :=
         ⟨ht2.res.ne (by omega),ht2.hist.set 3 _,ht2.map.blk (Below.heap_setCell _ _ _ _ (by show w.heap.size + 1 ≠ w.heap.size + 1 + 1;omega)),Below.setCell ht2.bel (by show w.heap.size ≤ w.heap.size + 1 + 1;omega) _⟩
       have HT3:=hide ht3;have HR3:=hide ((zu HR2).kept' (w':=W2.setCell ⟨w.heap.size + 1 + 1,3,none⟩ (.slice uo (ord (nms fs)).length co)) (fun g hg => by have h1:=(own_ge (zu HR2) g hg).1;have h3 : g ≠ w.heap.size + 1 + 1:=(by omega);exact Below.heap_setCell _ _ _ _ h3));have HH3:=hide ((zu HH2).set (g:=w.heap.size + 1 + 1) (o:=3) (x:=.slice uo (ord (nms fs)).length co) (by have:=zu HWL;omega));generalize hlo : (ord (nms fs)).length = lo at *;have HLO:=hide hlo;clear hlo hb hrow h2 ht2 ht3
       by_cases hlt : lo < n
       ·have l1 : (lo : Int) < (n : Int):=by omega
        have lz : decide ((lo : Int) < (n : Int)) = true:=dt l1;have ht3:=zu HT3;have k0:=ht3.hist.cell (m:=0) rfl;have k1:=ht3.hist.cell (m:=1) rfl;have k2:=ht3.hist.cell (m:=2) rfl;have k3:=ht3.hist.cell (m:=3) rfl;have r0:=ht3.res.cell (m:=0) rfl;have r1:=ht3.res.cell (m:=1) rfl;have r2:=ht3.res.cell (m:=2) rfl;have r3:=ht3.res.cell (m:=3) rfl;have fzr : ∀ o,(W2.setCell ⟨w.heap.size + 1 + 1,3,none⟩ (.slice uo lo co)).frozen? ⟨w.heap.size,o,none⟩ = false:=ht3.res.frozen;obtain ⟨u9,c9,e9,hnt3⟩:=(zu HH3).nmS;have e10 : un = u9:=by injection e9
        subst e10;have HNT3:=hide hnt3;clear ht3 e9 hnt3;go_wp2_with fail;generalize W2.setCell ⟨w.heap.size + 1 + 1,3,none⟩ (.slice uo lo co) = W3 at *;have HSC:=hide (fun W (hb : Below W3.heap.size W3 W) => shortP_any un n cn (nms fs) W (zu HNL) (by omega) ((zu HNT3).bel hb) (zu HON));have HNO:=hide (fun W (hb : Below W3.heap.size W3 W) ub m cb b h1 h2 h3 h4 => namesP_any u un uo ub p po n cu (w.heap.size + 1) n cn lo co cb m fs b W (zu HL) ((zu HU).bel (bc (zu HT3).bel hb)) h1 h2 h3 h4);have hlr:=(zu HT3).res.lt;have hlh:=(zu HT3).hist.lt
        go_region_held3 (fun wx => wx.cell? ⟨w.heap.size + 1 + 1,0,none⟩ = some (.slice u n cu) ∧ wx.cell? ⟨w.heap.size + 1 + 1,1,none⟩ = some (.map (some (w.heap.size + 1))) ∧ wx.cell? ⟨w.heap.size + 1 + 1,2,none⟩ = some (.slice un n cn) ∧ wx.cell? ⟨w.heap.size + 1 + 1,3,none⟩ = some (.slice uo lo co)) (simp (maxDischargeDepth:=12) [go_sem,le1,lt1, *])
         (first
         | (go_at_call 151;refine (zu HSC _ (by repeat (first | exact bfl _ _ | refine Below.drew ?_))).mono ?_;rintro e w' ⟨⟨vc,b,rfl,hbst,hown⟩,hb⟩;obtain ⟨uc,cc,rfl,_,_,hfc⟩:=own_form hown;have HB9 : Hid (Below W3.heap.size W3 w'):=hide ⟨hb.os,hb.tape,hb.output,hb.size,hb.block⟩;have HBS:=hide hbst;have HOC:=hide hown;have HFC:=hide hfc;have j0:=keep1 hb (b:=w.heap.size + 1 + 1) (o:=0) (v:=.slice u n cu) k0;have j1:=keep1 hb (b:=w.heap.size + 1 + 1) (o:=1) (v:=.map (some (w.heap.size + 1))) k1;have j2:=keep1 hb (b:=w.heap.size + 1 + 1) (o:=2) (v:=.slice un n cn) k2;have j3:=keep1 hb (b:=w.heap.size + 1 + 1) (o:=3) (v:=.slice uo lo co) k3;have HARG:=hide (show b.length ≤ 4096 ∧ (∀ x ∈ b,x < n) ∧ (b ≠ [] → ∃ g o,uc = some ⟨g,o,none⟩ ∧ g < w'.heap.size ∧ IntsAt w' g o (nats b)) from ⟨by have h9:=hbst.len (zu HON) (by rw [zu HNL];exact Nat.le_refl _);rw [zu HNL] at h9;omega,by have h9:=hbst.lt (zu HON) (by rw [zu HNL];exact Nat.le_refl _);rw [zu HNL] at h9;exact h9,fun h0 => by obtain ⟨g,hu,_,hg,hc⟩:=hfc (fun e => h0 (List.eq_nil_of_length_eq_zero e));exact ⟨g,0,hu,hg,fun j z hj' => by rw [Nat.zero_add];apply hc;rw [natV_nats,List.getElem?_map,hj'];rfl⟩⟩);clear hb hbst hown hfc)
         | (go_at_call 150;refine (zu HNO _ (by repeat (first | exact zu HB9 | refine Below.drew ?_)) _ _ _ b rfl (zu HARG).1 (zu HARG).2.1 (zu HARG).2.2).mono ?_;rintro e w'' ⟨⟨vs9,rfl,hsr⟩,hb2⟩;obtain ⟨us9,cs9,rfl,_⟩:=own_form hsr;have HB10:=hide hb2;have HSR:=hide hsr;have i0':=keep1 hb2 (b:=w.heap.size + 1 + 1) (o:=0) (v:=.slice u n cu) j0;have i1':=keep1 hb2 (b:=w.heap.size + 1 + 1) (o:=1) (v:=.map (some (w.heap.size + 1))) j1;have i2':=keep1 hb2 (b:=w.heap.size + 1 + 1) (o:=2) (v:=.slice un n cn) j2;have i3':=keep1 hb2 (b:=w.heap.size + 1 + 1) (o:=3) (v:=.slice uo lo co) j3;have ht9:=((zu HT3).next (zu HB9)).next hb2;have HT9:=hide ht9;have r0':=ht9.res.cell (m:=0) rfl;have r1':=ht9.res.cell (m:=1) rfl;have r2':=ht9.res.cell (m:=2) rfl;have r3':=ht9.res.cell (m:=3) rfl;have fz9 : ∀ o,w''.frozen? ⟨w.heap.size,o,none⟩ = false:=ht9.res.frozen;clear hb2 hsr ht9))
        go_wp2_with fail;have h4:=put4_vb (zu HT9).res (.slice u n cu) (.map (some (w.heap.size + 1))) (.slice un n cn) (.slice uo lo co);have z0:=h4.cell (m:=0) rfl;have z1:=h4.cell (m:=1) rfl;have z2:=h4.cell (m:=2) rfl;have z3:=h4.cell (m:=3) rfl;unfold put4 at z0 z1 z2 z3;refine bodyPost_ret (v:=.tuple #[.agg #[.slice u n cu,.map (some (w.heap.size + 1)),.slice un n cn,.slice uo lo co],.int .i64 9,.slice us9 b.length cs9]) (by simp [results,Tryz.results116,go_sem,z0,z1,z2,z3];done) rfl ?_;have hb0 : b ≠ []:=fun e => by have:=(zu HOA b (zu HBS)).1 e;omega
        have hck:=zu HCK b (zu HBS);rw [if_neg hb0] at hck;refine ⟨⟨_,_,_,_,_,_,_,_,_,b.map (nmOf fs),rfl,hck,?_,fun h => by cases h⟩,put4_bel (zu HT9).bel _ _ _ _⟩;have hs9:=zu HSR;have hsz9:=Nat.le_trans (zu HT3).bel.size (zu HB9).size;have h11:=own_kept hs9 (w':=put4 w'' w.heap.size (.slice u n cu) (.map (some (w.heap.size + 1))) (.slice un n cn) (.slice uo lo co)) (fun g hg => put4_blk _ _ _ _ _ _ (by have h1:=(own_ge hs9 g hg).1;have h2:=(zu HB9).size;have h3:=(zu HT3).res.lt;omega));have h12:=own_mono h11 hsz9;unfold SRow;rw [List.length_map] at h12 ⊢
        exact h12
       ·have l1 : ¬ (lo : Int) < (n : Int):=by omega
        have lz : decide ((lo : Int) < (n : Int)) = false:=df l1;have hlon : lo = n:=by omega
        obtain ⟨b,hbst⟩:=Bst_ex (sc (nms fs)) n;have hb0:=(zu HOA b hbst).2 hlon;subst hb0;have hck:=zu HCK [] hbst;rw [if_pos rfl] at hck;have HCK0:=hide hck;clear hck hbst hlon;have k0:=(zu HT3).hist.cell (m:=0) rfl;have k1:=(zu HT3).hist.cell (m:=1) rfl;have k2:=(zu HT3).hist.cell (m:=2) rfl;have k3:=(zu HT3).hist.cell (m:=3) rfl;have r0:=(zu HT3).res.cell (m:=0) rfl;have r1:=(zu HT3).res.cell (m:=1) rfl;have r2:=(zu HT3).res.cell (m:=2) rfl;have r3:=(zu HT3).res.cell (m:=3) rfl
        have fzr : ∀ o,(W2.setCell ⟨w.heap.size + 1 + 1,3,none⟩ (.slice uo lo co)).frozen? ⟨w.heap.size,o,none⟩ = false:=(zu HT3).res.frozen;go_wp2_with fail;generalize W2.setCell ⟨w.heap.size + 1 + 1,3,none⟩ (.slice uo lo co) = W3 at *;have h4:=put4_vb (zu HT3).res (.slice u n cu) (.map (some (w.heap.size + 1))) (.slice un n cn) (.slice uo lo co);have z0:=h4.cell (m:=0) rfl;have z1:=h4.cell (m:=1) rfl;have z2:=h4.cell (m:=2) rfl;have z3:=h4.cell (m:=3) rfl;unfold put4 at z0 z1 z2 z3
        refine bodyPost_ret (v:=.tuple #[.agg #[.slice u n cu,.map (some (w.heap.size + 1)),.slice un n cn,.slice uo lo co],.int .i64 0,.slice none 0 0]) (by simp [results,Tryz.results116,go_sem,z0,z1,z2,z3];done) rfl ?_;refine ⟨⟨_,_,_,_,_,_,_,_,_,[],rfl,zu HCK0,own_nil _ _ _ _,fun _ => ⟨?_,by omega,?_,?_⟩⟩,put4_bel (zu HT3).bel _ _ _ _⟩
        ·exact (zu HT3).map.blk (put4_blk _ _ _ _ _ _ (by omega))
        ·refine ⟨_,?_,(zu HH3).blk (w':=put4 W3 w.heap.size (.slice u n cu) (.map (some (w.heap.size + 1))) (.slice un n cn) (.slice uo lo co)) (by rw [put4_size];exact Nat.le_refl _) (fun g hg => put4_blk _ _ _ _ _ _ (by have:=zu HWL;omega))⟩
         have:=zu HWL;omega
        ·rw [zu HLO]
         have h9:=(zu HR3).kept' (w':=put4 W3 w.heap.size (.slice u n cu) (.map (some (w.heap.size + 1))) (.slice un n cn) (.slice uo lo co)) (fun g hg => put4_blk _ _ _ _ _ _ (by have h1:=(own_ge (zu HR3) g hg).1;omega));exact h9.mono (zu HWA)
open Go.ChangeShapes Go.WideShapes Go.ChangeAt Go.RowKit
theorem st_szq (q : Int) (q0 : 0 ≤ q) (q1 : q ≤ 1048576) (u : Option Addr) (n cu : Nat) (l : List ByteArray) (w : World) (hl : l.length = n) (hn : n ≤ 9223372036854775807) (hs : ∀ s ∈ l,s.size ≤ maxLen) (hu : StAt w u l) :
  Calls Tryz.prog 10 #[.slice u n cu,.int .i64 q] w fun e w' => (∃ r : Int,e = .returned (.int .i64 r) ∧ (0 ≤ r → n ≤ 1048576 ∧ r ≤ 1048576)) ∧ w' = w:=by
 have HU:=hide hu;have HL:=hide hl;have HS:=hide hs;clear hu hl hs;have n0 : (0 : Int) ≤ (n : Int):=Int.natCast_nonneg _;have wq : IntKind.i64.wrap (q - (n : Int)) = q - (n : Int):=wrap_i (by omega) (by omega)
 by_cases hb : (n : Int) ≤ q
 ·have t : decide (q - (n : Int) < 0) = false:=df (by omega)
  have t' : ¬ (q - (n : Int) < 0):=by omega
  go_enter Tryz.func10,Tryz.ntmps10;go_wp2
  go_loopw [1,5] (fun qq s W => ∃ (i : Nat) (r : Int),qq = .int .i64 r ∧ 0 ≤ r ∧ r ≤ 1048576 ∧ s = .int .i64 (i : Int) ∧ i ≤ n ∧ W = w) (fun _ s _ => n - (intOf s).toNat)
  case atStart => exact ⟨0,_,rfl,by omega,by omega,rfl,Nat.zero_le _,rfl⟩
  case round =>
   obtain ⟨i,r,rfl,hr0,hr1,rfl,hi,hw⟩:=hrel;subst hw
   by_cases h : i < n
   ·have i1 : (i : Int) < (n : Int):=by omega
    have i0 : (0 : Int) ≤ (i : Int):=Int.natCast_nonneg _;have iz : decide ((i : Int) < (n : Int)) = true:=dt i1;obtain ⟨s,hx⟩:=get_some (zu HL) h;have hne : l ≠ []:=by intro e;subst e;cases hx
    obtain ⟨g,o,rfl,_,hc⟩:=(zu HU) hne;have k0:=hc i s hx;have hss:=zu HS s (List.mem_of_getElem? hx);unfold maxLen at hss;have wr1 : IntKind.i64.wrap (r - (s.size : Int)) = r - (s.size : Int):=wrap_i (by omega) (by omega);clear hx hc hne
    by_cases hz : r - (s.size : Int) < 0
    ·have hzd : decide (r - (s.size : Int) < 0) = true:=dt hz
     go_wp2_with fail;go_ret;exact ⟨⟨-1,rfl,fun h => by omega⟩,rfl⟩
    ·have hzd : decide (r - (s.size : Int) < 0) = false:=df hz
     go_wp2_with fail;go_roundw
     case rel => exact ⟨i + 1,r - (s.size : Int),rfl,by omega,by omega,by simp,h,by first | rfl | trivial⟩
     case measure => simp only [intOf];omega
   ·have i1 : ¬ (i : Int) < (n : Int):=by omega
    have iz : decide ((i : Int) < (n : Int)) = false:=df i1;go_wp2_with fail;go_ret;exact ⟨⟨_,rfl,fun _ => ⟨by omega,by omega⟩⟩,rfl⟩
 ·have t : decide (q - (n : Int) < 0) = true:=dt (by omega)
  have t' : q - (n : Int) < 0:=by omega
  go_enter Tryz.func10,Tryz.ntmps10;go_wp2;go_ret;exact ⟨⟨-1,rfl,fun h => by omega⟩,rfl⟩
theorem st_to (u : Option Addr) (n cu : Nat) (l : List ByteArray) (w : World) (hl : l.length = n) (hn : n ≤ 1048576) (hu : StAt w u l) :
  Calls Tryz.prog 13 #[.slice u n cu] w fun e w' => (∃ g,e = .returned (.slice (some ⟨g,0,none⟩) n n) ∧ w.heap.size ≤ g ∧ vb w' g 9 (strs l)) ∧ Below w.heap.size w w':=by
 have HU:=hide hu;have HL:=hide hl;have hmk:=fun W => make_vals (P:=Tryz.prog) 23 9 16 n (.string ⟨#[]⟩) rfl Tryz.underlying23 info9 (by omega) (by omega) W
 clear hu hl;generalize hZ : List.replicate n (Value.string ⟨#[]⟩) = Z at hmk;have HZ : Hid (Z.length = n):=hide (by rw [← hZ];simp);clear hZ;go_enter Tryz.func13,Tryz.ntmps13;go_wp2_with fail
 go_loopw [4] (fun s W => ∃ (i : Nat) (L : List Value),s = .int .i64 (i : Int) ∧ i ≤ n ∧ L.length = n ∧ L.take i = (strs l).take i ∧ vb W w.heap.size 9 L ∧ Below w.heap.size w W) (fun s _ => n - (intOf s).toNat)
 case atStart => exact ⟨0,Z,rfl,Nat.zero_le _,zu HZ,by simp,vb_new w 9 Z _ rfl,ba (bfl _ _) _⟩
 case round =>
  obtain ⟨i,L,rfl,hi,hlen,htk,hv,hw⟩:=hrel;have HV:=hide hv;have HW:=hide hw;have HLN:=hide hlen;have HTK:=hide htk
  by_cases h : i < n
  ·have i1 : (i : Int) < (n : Int):=by omega
   have i0 : (0 : Int) ≤ (i : Int):=Int.natCast_nonneg _;have iz : decide ((i : Int) < (n : Int)) = true:=dt i1;obtain ⟨s,hx⟩:=get_some (zu HL) h;have hne : l ≠ []:=by intro e;subst e;cases hx
   obtain ⟨g,o,rfl,hgl,hc⟩:=((zu HU).bel hw) hne;have k0:=hc i s hx;have hil : i < L.length:=by rw [hlen];exact h
   have e0 : wr.cell? ⟨w.heap.size,i,none⟩ = some L[i]:=hv.cell (List.getElem?_eq_getElem hil);have fz : ∀ q,wr.frozen? ⟨w.heap.size,q,none⟩ = false:=hv.frozen;have HS:=hide (hv.set i (.string s));have HWS : Hid (Below w.heap.size w (wr.setCell ⟨w.heap.size,i,none⟩ (.string s))):=hide (Below.setCell hw (Nat.le_refl _) _)
   have HT2 : Hid ((L.set i (.string s)).take (i + 1) = (strs l).take (i + 1)):=hide (by
    have hx2 : (strs l)[i]? = some (.string s):=by simp [strs,hx]
    rw [List.take_add_one,List.take_add_one,List.take_set_of_le (Nat.le_refl _),htk,hx2,List.getElem?_set_self hil])
   generalize L[i] = x0 at *;clear hx hc hne hil hlen htk hv hw;go_wp2_with fail;go_roundw
   case rel => exact ⟨i + 1,L.set i (.string s),by simp,h,by rw [List.length_set];exact zu HLN,zu HT2,zu HS,zu HWS⟩
   case measure => simp only [intOf];omega
  ·have i1 : ¬ (i : Int) < (n : Int):=by omega
   have iz : decide ((i : Int) < (n : Int)) = false:=df i1
   have HE : Hid (L = strs l):=hide (by
    rw [List.take_of_length_le (by omega),List.take_of_length_le (by simp [strs];rw [zu HL];omega)] at htk
    exact htk)
   clear hlen htk hv hw;go_wp2_with fail;go_ret;exact ⟨⟨_,rfl,Nat.le_refl _,by rw [← zu HE];exact zu HV⟩,zu HW⟩
end Go.Proofs.YtkiplmabjeadgaaGreat
