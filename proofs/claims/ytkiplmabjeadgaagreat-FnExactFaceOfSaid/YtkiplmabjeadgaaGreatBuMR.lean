/- What a feature does to cells, as the program keeps it: its boxes. -/
import Derived.Test.YtkiplmabjeadgaaGreatBpW5R
import Derived.Test.YtkiplmabjeadgaaGreatBdMemR
import Derived.Test.YtkiplmabjeadgaaGreatBdD31R
import Derived.Test.YtkiplmabjeadgaaGreatBdF9R
import Derived.Deep.RegionLaw
namespace Go.Proofs.YtkiplmabjeadgaaGreat
set_option maxRecDepth 100000
set_option maxHeartbeats 16000000
open Go.ChangeShapes Go.WideShapes Go.ChangeAt Go.RowKit Go.Maps Go.WideMaps
set_option linter.unusedVariables false
set_option linter.unusedSimpArgs false
def BuM (fs : List Ft) (off : List ByteArray) (w : World) (u : Option Addr) (n cu : Nat) (e : Ending) (w' : World) : Prop :=
 (∃ c ab D v v3,e = .returned (.tuple #[v,.int .i64 c,v3]) ∧ Bu fs off c ab D ∧ SRow w' w.heap.size v3 ab ∧
  (∀ D',D = some D' → Fine fs ∧ Okd fs D' ∧ D'.done.length ≤ 30 ∧ ∃ g gf gb B ud cd uo co,v = .pointer (some ⟨g,0,none⟩) ∧ Mdm w' B u n cu fs g gf gb ud cd uo co D' ∧ (w.heap.size ≤ g ∧ w.heap.size ≤ gf ∧ w.heap.size ≤ gb) ∧ (g < B ∧ gf < B ∧ gb < B ∧ B ≤ w'.heap.size) ∧ g ≠ gf ∧ g ≠ gb ∧ gf ≠ gb)) ∧ Below w.heap.size w w'
theorem BuM.no {fs : List Ft} {off : List ByteArray} {w w' : World} {u : Option Addr} {n cu : Nat} {c : Int} {ab : List ByteArray} {v v3 : Value} (h : Bu fs off c ab none) (hs : SRow w' w.heap.size v3 ab) (hb : Below w.heap.size w w') : BuM fs off w u n cu (.returned (.tuple #[v,.int .i64 c,v3])) w' :=
  ⟨⟨c,ab,none,v,v3,rfl,h,hs,fun _ e => by cases e⟩,hb⟩
theorem Mdm.set {w : World} {B : Nat} {u : Option Addr} {n cu : Nat} {fs : List Ft} {g gf gb go : Nat} {ud : Option Addr} {cd : Nat} {uo : Option Addr} {co : Nat} {D : Bd} (h : Mdm w B u n cu fs g gf gb ud cd uo co D) (h1 : go ≠ g) (h2 : go ≠ gf) (h3 : go ≠ gb) (h4 : go < B) (o : Nat) (x : Value) : Mdm (w.setCell ⟨go,o,none⟩ x) B u n cu fs g gf gb ud cd uo co D :=
  ⟨h.blk.ne (fun e => h1 e.symm),⟨h.cs.f.ne (fun e => h2 e.symm),h.cs.b.ne (fun e => h3 e.symm)⟩,own_kept h.dn fun j hj => Below.heap_setCell _ _ _ _ (by have:=(own_ge h.dn j hj).1;show j ≠ go;omega),own_kept h.od fun j hj => Below.heap_setCell _ _ _ _ (by have:=(own_ge h.od j hj).1;show j ≠ go;omega)⟩
theorem doF_code {fs : List Ft} {D : Bd} {i : Nat} {x : Int × List ByteArray} (h : doF fs D i = .inl x) : x.1 ≠ 0:=by
 unfold doF at h
 cases hs : stood fs D (fs.getD i ft0) with
 | inl y =>
  rw [hs] at h
  cases h
  unfold stood at hs
  split at hs
  ·cases hs
  ·simp only at hs
   split at hs
   ·cases hs;show (8 : Int) ≠ 0;decide
   ·split at hs
    ·cases hs;show (13 : Int) ≠ 0;decide
    ·cases hs
 | inr l =>
  rw [hs] at h;simp only at h
  split at h
  ·cases h;show (5 : Int) ≠ 0;decide
  ·cases h
theorem doF_len {fs : List Ft} {D D' : Bd} {i : Nat} (h : doF fs D i = .inr D') : D'.done.length = D.done.length + 1:=by
 unfold doF at h
 cases hs : stood fs D (fs.getD i ft0) with
 | inl y => rw [hs] at h;cases h
 | inr l =>
  rw [hs] at h;simp only at h
  split at h
  ·cases h
  ·cases h;simp
theorem cs0_rep1 : (List.replicate 13824 (Value.bool false)) = fnL 13824 fun k => .bool (cs0.full k):=fnL_rep _ _
theorem cs0_rep2 : (List.replicate 13824 (Value.int .i64 0)) = fnL 13824 fun k => .int .i64 (cs0.by_ k : Int):=fnL_rep _ _
theorem buildM_any (u : Option Addr) (p po n cu : Nat) (fs : List Ft) (uf : Option Addr) (mf cf : Nat) (off : List ByteArray) (w : World) (hl : fs.length = n) (hn : n ≤ 1048576) (hcu : n ≤ cu) (hs : ∀ f ∈ fs,f.nm.size ≤ maxLen ∧ f.on.size ≤ maxLen ∧ f.ov.size ≤ maxLen) (hu : SlG ftc 15 w u p po fs)
  (hof : off.length = mf) (hmf : mf ≤ 1048576) (hst : StAt w uf off) :
  Calls Tryz.prog 44 #[.slice u n cu,.slice uf mf cf] w (BuM fs off w u n cu):=by
 by_cases hlong : 4096 < mf
 ·have d1 : decide ((4096 : Int) < (mf : Int)) = true:=dt (by omega)
  have hbu : Bu fs off 2 [] none:=by unfold Bu;rw [if_pos (by omega)];exact ⟨rfl,rfl,rfl⟩
  have HD:=hide hbu;clear hu hs hbu hst;go_enter Tryz.func44,Tryz.ntmps44;go_wp2_with fail;refine bodyPost_ret (v:=.tuple #[.pointer none,.int .i64 2,.slice (some ⟨w.heap.size,0,none⟩) 0 0]) (by simp [results,Tryz.results44,go_sem];done) rfl ?_;exact BuM.no (zu HD) (own_made w 9 w.heap.size 1 (Nat.le_refl _) _ rfl) (ba (bfl _ _) _)
 have d1 : decide ((4096 : Int) < (mf : Int)) = false:=df (by omega);have HRD:=hide (checkM_any u p po n cu fs w hl hn hcu hs hu);have HU:=hide hu;have HL:=hide hl;have HST:=hide hst;have HOF:=hide hof;have HLG:=hide (show ¬ 4096 < off.length by omega);clear hu hl hs hst hof;go_enter Tryz.func44,Tryz.ntmps44;go_wp2_with fail;refine (zu HRD).mono ?_;rintro e W1 ⟨⟨v1,c,v3,ab,rfl,hck,hsr,hok⟩,hb⟩;have HB:=hide hb;obtain ⟨ua,ca,rfl,_⟩:=own_form hsr;have HSR:=hide hsr;clear hsr HRD
 by_cases hc : c = 0
 rotate_left
 ·have hc' : (c == 0) = false:=by simpa using hc
  have hbu : Bu fs off c ab none:=by unfold Bu;rw [if_neg (zu HLG)];exact ⟨c,ab,hck,.inl ⟨hc,rfl,rfl,rfl⟩⟩
  have HD:=hide hbu;clear hck hok hb hbu;go_wp2_with fail;refine bodyPost_ret (v:=.tuple #[.pointer none,.int .i64 c,.slice ua ab.length ca]) (by simp [results,Tryz.results44,go_sem];done) rfl ?_;exact BuM.no (zu HD) (zu HSR) (zu HB)
 subst hc;obtain ⟨hfine,rfl⟩:=hck.zero;obtain ⟨uN,cN,rfl,hna⟩:=hok rfl;rw [nms_len,zu HL];have hn30 : n ≤ 30:=by have:=hfine.len;rw [zu HL] at this;exact this
 have HF:=hide hfine;have HCK:=hide hck;have HNA:=hide hna;have HFD:=hide (fun s => find_any u p po n cu fs s W1 (zu HL) hn ((zu HU).bel hb));have HSW:=hide ((zu HST).bel hb);clear hck hok hb hna hfine HSR;go_wp2_with fail
 go_loopw [10] (fun z W => ∃ i : Nat,z = .int .i64 (i : Int) ∧ i ≤ mf ∧ (∀ (j : Nat) (t : ByteArray),j < i → off[j]? = some t → findN fs t ≠ none) ∧ W = W1) (fun z _ => mf - (intOf z).toNat)
 case atStart => exact ⟨0,rfl,Nat.zero_le _,fun j t h => absurd h (Nat.not_lt_zero _),rfl⟩
 case round =>
  obtain ⟨i,rfl,hi,hall,hw⟩:=hrel;subst hw;have HALL:=hide hall;clear hall
  by_cases h : i < mf
  ·have iz : decide ((i : Int) < (mf : Int)) = true:=dt (by omega)
   have i1 : (i : Int) < (mf : Int):=by omega
   have i0 : (0 : Int) ≤ (i : Int):=Int.natCast_nonneg _;have wi : IntKind.i64.wrap ((i : Int) + 1) = ((i + 1 : Nat) : Int):=(wrap_i (by omega) (by omega)).trans (by simp);obtain ⟨s,hx⟩:=get_some (zu HOF) h
   obtain ⟨fo,oo,rfl,_,hcs⟩:=(zu HSW) (by intro e;subst e;cases hx)
   have k0:=hcs i s hx;have HX:=hide hx;have HK0:=hide k0;have HFD2:=hide (zu HFD s);clear hcs hx
   cases hq : findN fs s with
   | some q =>
    rw [findI_some hq] at HFD2;have qz : decide ((q : Int) < 0) = false:=df (by omega);have HQ:=hide hq;clear hq;go_wp2_with fail;refine (zu HFD2).mono ?_;rintro e W2 ⟨rfl,hw2⟩;rw [hw2];clear hw2 W2;go_wp2_with fail;go_roundw
    case rel =>
     refine ⟨i + 1,rfl,h,fun j t hj ht => ?_,by first | rfl | trivial⟩
     by_cases e : j = i
     ·subst e
      rw [zu HX] at ht
      cases ht
      rw [zu HQ];simp
     ·exact zu HALL j t (by omega) ht
    case measure => simp only [intOf];omega
   | none =>
    rw [findI_none hq] at HFD2;have qz : decide ((-1 : Int) < 0) = true:=by decide
    have hbu : Bu fs off 6 [s] none:=by unfold Bu;rw [if_neg (zu HLG)];exact ⟨0,[],zu HCK,.inr ⟨rfl,.inl ⟨i,s,zu HX,hq,zu HALL,rfl,rfl,rfl⟩⟩⟩
    have HD:=hide hbu;clear hq hbu;go_wp2_with fail;refine (zu HFD2).mono ?_;rintro e W2 ⟨rfl,hw2⟩;rw [hw2];clear hw2 W2
    go_upto_region 10 with fail
    refine Go.Code.wp_mono (Only.to (fun _ _ h => h)) (bu10 HK0 (hide h) ?_);intro n4 W2 hb2 hv4 hn4
    have hE : BuM fs off w u n cu (.returned (.tuple #[.pointer none,.int .i64 6,.slice (some ⟨n4,0,none⟩) 1 1])) W2 :=
     BuM.no (zu HD) ((show vb W2 n4 9 (strs [s]) from hv4).srow (Nat.le_trans (zu HB).size hn4) (by simp)) (bc (zu HB) hb2)
    have HE:=hide hE;clear hb2 hv4 hn4 hE;go_wp2_with fail;refine bodyPost_ret (v:=.tuple #[.pointer none,.int .i64 6,.slice (some ⟨n4,0,none⟩) 1 1]) (by simp [results,Tryz.results44,go_sem]) rfl ?_;exact zu HE
  ·obtain rfl : mf = i:=by omega
   have iz : decide ((mf : Int) < (mf : Int)) = false:=df (by omega)
   have hallo : ∀ s ∈ off,findN fs s ≠ none:=by
    intro s hs;obtain ⟨j,hj,rfl⟩:=List.getElem_of_mem hs;exact zu HALL j _ (by have:=zu HOF;omega) (List.getElem?_eq_getElem hj)
   have HALO:=hide hallo;clear hallo HALL HFD
   go_upto_region 11 with fail
   refine Go.Code.wp_mono (Only.to (fun _ _ h => h)) (bu11 (u:=u) ?_);intro g gf gb W2 hb2 hvg hvf hvb n1 n2 n3 g1 g2 g3;rw [cs0_rep1] at hvf;rw [cs0_rep2] at hvb;have hoall : (ord (nms fs)).length = (nms fs).length:=by rw [nms_len];exact (zu HF).all
   have HOM:=hide (fun W (hW : Below wr.heap.size wr W) => orderM_any uN n cN (nms fs) W (by rw [nms_len];exact zu HL) (by omega) ((zu HNA).bel hW) (fun l h => ⟨by have:=(zu HF).one.one l h;omega,by have:=(zu HF).one.lt l h;rw [nms_len,zu HL] at this;exact this⟩) hoall);have HOA:=hide hoall;have hmk:=fun W => make_vals (P:=Tryz.prog) 95 4 1 n (.bool false) rfl Tryz.underlying95 info4 (by omega) (by omega) W
   rw [← bl_nil] at hmk;have HB2:=hide hb2;have HVG:=hide hvg;have HVF:=hide hvf;have HVB:=hide hvb;have HNE:=hide (And.intro n1 (And.intro n2 n3));have HGE:=hide (And.intro g1 (And.intro g2 g3));have HLT:=hide (And.intro hvg.lt (And.intro hvf.lt hvb.lt));clear hb2 hvg hvf hvb n1 n2 n3 g1 g2 g3 hoall;go_wp2_with fail;clear hmk;have hbo : Below W2.heap.size W2 (W2.alloc (.cells (bl n []).toArray 4)):=ba (bfl _ _) _;refine (zu HOM _ ((zu HB2).trans (hbo.mono (zu HB2).size))).mono ?_;rintro e W3 ⟨vo,rfl,hrow,hb3⟩
   have hlo : (ord (nms fs)).length = n:=by rw [(zu HF).all];exact zu HL
   have hb23:=bc hbo hb3;have HVO:=hide ((vb_new W2 4 (bl n []) W2.heap.size rfl).bel hb3);have HROW:=hide hrow;have HMD:=hide (show Mdm W3 W3.heap.size u n cu fs g gf gb none 0 none 0 bd0 from ⟨(zu HVG).bel hb23,⟨(zu HVF).bel hb23,(zu HVB).bel hb23⟩,own_nil _ _ _ _,own_nil _ _ _ _⟩);have HB13:=hide ((zu HB2).trans (hb23.mono (zu HB2).size));have hsz3 : W2.heap.size + 1 ≤ W3.heap.size:=by have:=hb3.size;simpa using this
   have HSZ3:=hide hsz3;obtain ⟨uo,co,rfl,_⟩:=hrow.form;have HLO:=hide hlo
   obtain ⟨go,hgo⟩ : ∃ q,W2.heap.size = q:=⟨_,rfl⟩
   have hlt:=zu HLT;have HLT4:=hide (show g < go ∧ gf < go ∧ gb < go by rw [← hgo];exact hlt);have HGW:=hide (show wr.heap.size ≤ go by rw [← hgo];exact (zu HB2).size);simp only [World.size_alloc] at HROW;rw [hgo] at HVO HROW HSZ3 hsz3;rw [hgo]
   obtain ⟨B,hBq⟩ : ∃ q,W3.heap.size = q:=⟨_,rfl⟩
   rw [hBq] at HMD HSZ3 hsz3;have HBQ:=hide hBq;clear hbo hrow hb3 hb23 hsz3 hgo hlt hlo HOM HB2 HVG HVF HVB HLT hBq;go_wp2_with fail
   go_loopw [14] (fun z W => ∃ (i : Nat) (D : Bd) (ud : Option Addr) (cd : Nat) (uo2 : Option Addr) (co2 : Nat),z = .int .i64 (i : Int) ∧ i ≤ n ∧ vb W go 4 (bl n (mrk (nms fs) (sdB fs off) (wo (nms fs) i))) ∧ runB fs (lf fs off) (wo (nms fs) i) bd0 = .inr D ∧ Okd fs D ∧ D.done.length ≤ i ∧ Mdm W B u n cu fs g gf gb ud cd uo2 co2 D ∧ W.ownsRow (go + 1) 3 1 (.slice uo n co) n ((nats (ord (nms fs))).map (Value.int .i64)) ∧ (∀ j,(Value.slice uo n co).ownBlock = some j → j < B) ∧ Below wr.heap.size wr W ∧ B ≤ W.heap.size) (fun z _ => n - (intOf z).toNat)
   case atStart => exact ⟨0,bd0,none,0,none,0,rfl,Nat.zero_le _,zu HVO,rfl,Okd.zero fs,Nat.le_refl _,zu HMD,zu HROW,fun j hj => by rw [← zu HBQ];exact (own_ge (zu HROW) j hj).2,zu HB13,Nat.le_of_eq (zu HBQ).symm⟩
   case round =>
    clear HVO HMD HROW HB13;obtain ⟨i,D,ud,cd,uo2,co2,rfl,hin,hvb,hrun,hokd,hdl,hmd,hrow,hob,hbw,hsz⟩:=hrel;rename World => W5
    have HV:=hide hvb;have HRUN:=hide hrun;have HOKD:=hide hokd;have HDL:=hide hdl;have HMD:=hide hmd;have HROW:=hide hrow;have HOB:=hide hob;have HBW:=hide hbw;have HSZ:=hide hsz;clear hvb hrun hokd hdl hmd hob hsz
    by_cases h : i < n
    ·have i1 : (i : Int) < (n : Int):=by omega
     have i0 : (0 : Int) ≤ (i : Int):=Int.natCast_nonneg _;have iz : decide ((i : Int) < (n : Int)) = true:=dt i1;have wi : IntKind.i64.wrap ((i : Int) + 1) = ((i + 1 : Nat) : Int):=(wrap_i (by omega) (by omega)).trans (by simp);have hnl : (nms fs).length = n:=by rw [nms_len];exact zu HL
     obtain ⟨k,hk⟩:=wo_next (zu HOA) (show i < (nms fs).length by omega) (wo_full (zu HOA) i (by omega));obtain ⟨k1,k2,k3,_⟩:=ff_some hk;rw [hnl] at k1;have hoi:=ord_at (zu HOA) (by omega) hk;obtain ⟨u8,c8,e8,_,_,h8⟩:=own_form hrow
     injection e8 with e9 e10 e11
     subst e9;subst e11;obtain ⟨gq,rfl,hgq,_,hqc⟩:=h8 (by omega);have b0:=hqc i (.int .i64 (k : Int)) (by rw [List.getElem?_map,nats_at hoi];rfl);obtain ⟨f,hx⟩:=get_some (zu HL) k1;obtain ⟨l,hxl⟩:=get_some hnl k1;have hll : l.length ≤ 1:=(zu HF).one.one l (List.mem_of_getElem? hxl);have hgd : (nms fs).getD k [] = l:=by rw [List.getD_eq_getElem?_getD,hxl];rfl
     rw [hgd] at k3;have hws : mrk (nms fs) (sdB fs off) (wo (nms fs) (i + 1)) = mgo (nms fs) (sdB fs off) (mrk (nms fs) (sdB fs off) (wo (nms fs) i)) k:=by rw [wo_some hk,mrk_snoc]
     have hmk' : (mrk (nms fs) (sdB fs off) (wo (nms fs) i)).contains k = false:=by
      have h1:=(marks_one (zu HF).one ((List.range n).filter fun k => sdB fs off k) (sdB fs off) (fun k hk => by rw [Bool.eq_iff_iff];simp;omega) i).1
      cases e : (mrk (nms fs) (sdB fs off) (wo (nms fs) i)).contains k with
      | false => rfl
      | true => exact (k2 (h1 k (by simpa using e))).elim
     have hlf:=lf_at (off:=off) (show i < (nms fs).length by omega) hk;have hrs:=fun L => runB_snoc fs L (wo (nms fs) i) k bd0
     have hws2 : wo (nms fs) (i + 1) = wo (nms fs) i ++ [k]:=wo_some hk;have hgdf : fs.getD k ft0 = f:=getD_at hx;have hsd : sdB fs off k = hasT off f.nm:=by unfold sdB;rw [hgdf]
     generalize mrk (nms fs) (sdB fs off) (wo (nms fs) i) = M at *
     obtain ⟨gn,on,hun,hgn,hcls⟩:=(zu HNA) (by intro e;rw [e] at hxl;cases hxl)
     subst hun;obtain ⟨vx,hvx,xv,xc,rfl,hxv⟩:=hcls k l hxl;have HCX : Hid (∀ W,Below wr.heap.size wr W → W.cell? ⟨gn,on + k,none⟩ = some (.slice xv l.length xc)):=hide (fun W hb => (hb.cell (p:=⟨gn,on + k,none⟩) hgn).trans hvx)
     have HIX : Hid (l ≠ [] → ∃ b o,xv = some ⟨b,o,none⟩ ∧ ∀ W,Below wr.heap.size wr W → ∀ (t y : Nat),l[t]? = some y → W.cell? ⟨b,o + t,none⟩ = some (.int .i64 (y : Int))):=hide (fun h0 => by
      obtain ⟨b,o,e,hb,hI⟩:=hxv h0
      exact ⟨b,o,e,fun W hw t y ht => (hI.below hw hb) t _ (nats_at ht)⟩)
     obtain ⟨rfl,n0,_⟩:=((zu HU).bel (bc (zu HB) hbw)).at15 hx;have kk1 : (k : Int) < (n : Int):=by omega
     have kk0 : (0 : Int) ≤ (k : Int):=Int.natCast_nonneg _;have HHA:=hide (has_any uf mf cf off f.nm W5 (zu HOF) hmf ((zu HSW).bel hbw));have HV1:=hide ((zu HV).set k (.bool (sdB fs off k)));rw [m1_set k1 hmk'] at HV1;have fz : ∀ z,W5.frozen? ⟨go,z,none⟩ = false:=(zu HV).frozen;have dk:=(zu HV).cell (bl_at (o:=M) k1);have HGD:=hide hgd;have HWS:=hide hws;have HMK:=hide hmk';have HK2:=hide k2;have HK3:=hide k3;have HLF:=hide hlf;have HRS:=hide hrs;have HW2:=hide hws2;have HXF:=hide hx;have HHK:=hide hk
     clear hk k2 k3 hoi h8 hqc hx hxl hgd hws hmk' hcls hvx hxv hlf hrs hws2 hgdf hrow;generalize hsq : sdB fs off k = sq at *;have HSQ:=hide hsq;rw [← hsd] at HHA;have HGO:=hide (show go ≠ g ∧ go ≠ gf ∧ go ≠ gb ∧ go < B by have:=zu HLT4;have:=zu HSZ3;omega);have HM1:=hide ((zu HMD).set (zu HGO).1 (zu HGO).2.1 (zu HGO).2.2.1 (zu HGO).2.2.2 k (.bool sq));have HR1:=hide (own_kept (zu HROW) (w':=W5.setCell ⟨go,k,none⟩ (.bool sq)) (fun j hj => Below.heap_setCell _ _ _ _ (by have:=(own_ge (zu HROW) j hj).1;show j ≠ go;omega)))
     have HB1:=hide (Below.setCell (zu HBW) (p:=⟨go,k,none⟩) (zu HGW) (.bool sq));have HS1:=hide (show B ≤ (W5.setCell ⟨go,k,none⟩ (.bool sq)).heap.size by simpa [World.setCell] using zu HSZ);have HKN:=hide k1;clear hsq hsd hbw HV HMD HROW;go_wp2_with fail;refine (zu HHA).mono ?_;rintro e W6 ⟨rfl,hw6⟩;rw [hw6];clear hw6 W6 HHA;go_wp2_with fail;generalize W5.setCell ⟨go,k,none⟩ (.bool sq) = W6 at *;clear b0 n0 dk fz;have hcx:=zu HCX _ (zu HB1);have HNIL:=hide (fun (e : l = []) => mgo_nil (nm:=nms fs) (sd:=sdB fs off) (M:=M) (k:=k) (by rw [zu HGD,e]))
     go_loopw [16] (fun z W => ∃ t : Nat,z = .int .i64 (t : Int) ∧ t ≤ l.length ∧ vb W go 4 (bl n (if t = l.length then mgo (nms fs) (sdB fs off) M k else m1 M sq k)) ∧ Mdm W B (some ⟨p,po,none⟩) n cu fs g gf gb ud cd uo2 co2 D ∧ W.ownsRow (go + 1) 3 1 (.slice (some ⟨gq,0,none⟩) n co) n ((nats (ord (nms fs))).map (Value.int .i64)) ∧ Below wr.heap.size wr W ∧ B ≤ W.heap.size) (fun z _ => l.length - (intOf z).toNat)
     case atStart =>
      refine ⟨0,rfl,Nat.zero_le _,?_,zu HM1,zu HR1,zu HB1,zu HS1⟩
      by_cases e : l = []
      ·rw [if_pos (by rw [e];rfl),← zu HNIL e,zu HSQ]
       exact zu HV1
      ·rw [if_neg (by intro h0;exact e (List.eq_nil_of_length_eq_zero h0.symm))]
       exact zu HV1
     case round =>
      clear HM1 HR1 HB1 HS1 HV1 hcx;obtain ⟨t,rfl,htl,hvt,hmt,hrt,hbt,hst⟩:=hrel;rename World => W7
      have HVT:=hide hvt;have HMT:=hide hmt;have HRT:=hide hrt;have HBT:=hide hbt;have HST:=hide hst;have hcx:=zu HCX _ hbt
      by_cases h7 : t < l.length
      ·have tz : decide ((t : Int) < (l.length : Int)) = true:=dt (by omega)
       obtain rfl : t = 0:=by omega
       match l,hll,h7 with
       | [y],_,_ =>
        have hyk : y ≠ k:=fun e => zu HK2 (by have:=zu HK3 y (by simp);rw [e] at this;exact this)
        have hyn : y < n:=by have:=wo_lt (nms fs) i y (zu HK3 y (by simp));rw [nms_len,zu HL] at this;exact this
        obtain ⟨bx,qx,rfl,hcell⟩:=zu HIX (by simp);have r2:=hcell _ (zu HBT) 0 y rfl;have y1 : (y : Int) < (n : Int):=by omega
        have y0 : (0 : Int) ≤ (y : Int):=Int.natCast_nonneg _;rw [if_neg (by simp)] at hvt;have HVT0:=hide hvt;have dk:=hvt.cell (bl_at (zu HKN));have dy:=hvt.cell (bl_at hyn);have fz : ∀ z,W7.frozen? ⟨go,z,none⟩ = false:=hvt.frozen;have HV2:=hide (hvt.set k (.bool ((m1 M sq k).contains k || (m1 M sq k).contains y)));rw [lup_one (zu HKN)] at HV2;have e9:=mgo_bl (n:=n) (nm:=nms fs) (sd:=sdB fs off) (zu HMK) hyk (zu HGD);simp only [zu HSQ] at e9;rw [e9] at HV2;have HM3:=fun x => hide ((zu HMT).set (zu HGO).1 (zu HGO).2.1 (zu HGO).2.2.1 (zu HGO).2.2.2 k (.bool x))
        have HR3:=fun x => hide (own_kept (zu HRT) (w':=W7.setCell ⟨go,k,none⟩ (.bool x)) (fun j hj => Below.heap_setCell _ _ _ _ (by have:=(own_ge (zu HRT) j hj).1;show j ≠ go;omega)))
        simp only [List.length_singleton,Nat.add_zero] at hcx r2;clear hcell e9 hvt hmt hrt hbt hst HVT;generalize (m1 M sq k).contains k = bk at *;generalize (m1 M sq k).contains y = by' at *
        cases bk
        ·go_wp2_with fail
         go_roundw
         case rel => exact ⟨1,rfl,Nat.le_refl _,by rw [if_pos (show 1 = [y].length from rfl)];exact zu HV2,zu (HM3 _),zu (HR3 _),Below.setCell (zu HBT) (zu HGW) _,by simpa [World.setCell] using zu HST⟩
         case measure => simp [intOf]
        ·go_wp2_with fail
         go_roundw
         case rel => exact ⟨1,rfl,Nat.le_refl _,by rw [if_pos (show 1 = [y].length from rfl)];exact zu HV2,zu (HM3 _),zu (HR3 _),Below.setCell (zu HBT) (zu HGW) _,by simpa [World.setCell] using zu HST⟩
         case measure => simp [intOf]
      ·obtain rfl : t = l.length:=by omega
       have tz : decide ((l.length : Int) < (l.length : Int)) = false:=df (by omega);rw [if_pos rfl] at hvt;have HVT:=hide hvt;have dg:=hvt.cell (bl_at (o:=mgo (nms fs) (sdB fs off) M k) k1);rw [zu HLF] at dg;clear hvt hmt hrt hbt hst
       cases hlfk : lf fs off k with
       | true =>
        rw [hlfk] at dg
        have hr1 : runB fs (lf fs off) (wo (nms fs) (i + 1)) bd0 = .inr D:=by
         rw [zu HW2,zu HRS,zu HRUN];simp only;rw [if_pos hlfk]
        have HR9:=hide hr1;clear hr1 hlfk;go_wp2_with fail;go_roundw
        case rel => exact ⟨i + 1,D,ud,cd,uo2,co2,by simp,h,by rw [zu HWS];exact zu HVT,zu HR9,zu HOKD,Nat.le_succ_of_le (zu HDL),zu HMT,zu HRT,zu HOB,zu HBT,zu HST⟩
        case measure => simp only [intOf];omega
       | false =>
        rw [hlfk] at dg;have hwb : Below w.heap.size w W7:=bc (zu HB) (zu HBT);have hne:=zu HNE;have hlt4:=zu HLT4;have hsz3:=zu HSZ3;have HDO:=hide (doM_any B (some ⟨p,po,none⟩) p po n cu fs g gf gb ud cd uo2 co2 D k f W7 (zu HL) (zu HF) ((zu HU).bel hwb) (zu HXF) (zu HOKD) (by have:=zu HDL;omega) (zu HMT) (zu HST) (by omega) (by omega) (by omega) hne.1 hne.2.1 hne.2.2);have HWB:=hide hwb;have HNF:=hide (show ¬ lf fs off k = true by rw [hlfk];simp);unfold DoAns at HDO;clear hlfk hwb hne hlt4 hsz3
        cases hd : doF fs D k with
        | inl x =>
         rw [hd] at HDO;have hx0:=doF_code hd;have hc0 : (x.1 == 0) = false:=by simpa using hx0
         have hrun2 : runB fs (lf fs off) (ord (nms fs)) bd0 = .inl x:=by
          obtain ⟨T,hT⟩:=ord_split (nm:=nms fs) (i:=i + 1) (by omega);rw [hT,runB_app,zu HW2,zu HRS,zu HRUN];simp only;rw [if_neg (zu HNF),hd]
         have hbu : Bu fs off x.1 x.2 none:=by
          unfold Bu;rw [if_neg (zu HLG)];exact ⟨0,[],zu HCK,.inr ⟨rfl,.inr ⟨zu HALO,.inl ⟨x,hrun2,rfl,rfl,rfl⟩⟩⟩⟩
         have HD:=hide hbu;obtain ⟨xc,xa⟩:=x;simp only at hc0 HDO HD;clear hd hx0 hrun2 hbu;go_wp2_with fail;refine (zu HDO).mono ?_;rintro e W8 ⟨⟨v,rfl,hv⟩,hb8⟩;obtain ⟨ux,cx,rfl,_⟩:=own_form hv;have hE : BuM fs off w (some ⟨p,po,none⟩) n cu (.returned (.tuple #[.pointer none,.int .i64 xc,.slice ux xa.length cx])) W8:=BuM.no (zu HD) (hv.mono (zu HWB).size) (bc (zu HWB) hb8);have HE:=hide hE;clear hv hb8 hE dg;go_wp2_with fail;refine bodyPost_ret (v:=.tuple #[.pointer none,.int .i64 xc,.slice ux xa.length cx]) (by simp [results,Tryz.results44,go_sem]) rfl ?_
         exact zu HE
        | inr D' =>
         rw [hd] at HDO
         have hr1 : runB fs (lf fs off) (wo (nms fs) (i + 1)) bd0 = .inr D':=by
          rw [zu HW2,zu HRS,zu HRUN];simp only;rw [if_neg (zu HNF),hd]
         have HR9:=hide hr1;have HOK9:=hide ((zu HOKD).do_ (zu HF) (by have:=zu HL;have:=zu HKN;omega) hd);have HDL9:=hide (doF_len hd);simp only at HDO;clear hd hr1;go_wp2_with fail;refine (zu HDO).mono ?_;rintro e W8 ⟨⟨v,rfl,hv⟩,⟨ud9,cd9,uo9,co9,hm9⟩,ht9⟩;obtain ⟨ux,cx,rfl,_⟩:=own_form hv;have HGO9:=zu HGO;have HV9:=hide ((ht9.block go HGO9.2.2.2 HGO9.1 HGO9.2.1 HGO9.2.2.1).trans (zu HVT))
         have HRW9:=hide (own_kept (zu HRT) (fun j hj => by
          have h1:=(own_ge (zu HRT) j hj).1;have h2:=zu HOB j hj;have h3:=zu HLT4
          exact ht9.block j h2 (by omega) (by omega) (by omega)))
         have HB9:=hide ((zu HBT).trans (ht9.below (zu HGE).1 (zu HGE).2.1 (zu HGE).2.2 (by have:=zu HGW;omega)));have HM9:=hide hm9;have HS9:=hide (Nat.le_trans (zu HST) ht9.size);clear hv hm9 ht9 HGO9 dg;go_wp2_with fail;go_roundw
         case rel => exact ⟨i + 1,D',ud9,cd9,uo9,co9,by simp,h,by rw [zu HWS];exact zu HV9,zu HR9,zu HOK9,by rw [zu HDL9];have:=zu HDL;omega,zu HM9,zu HRW9,zu HOB,zu HB9,zu HS9⟩
         case measure => simp only [intOf];omega
    ·obtain rfl : n = i:=by omega
     have iz : decide ((n : Int) < (n : Int)) = false:=df (by omega);have hord : wo (nms fs) n = ord (nms fs):=by unfold ord;rw [nms_len,zu HL]
     rw [hord] at HRUN
     have hbu : Bu fs off 0 [] (some D):=by
      unfold Bu;rw [if_neg (zu HLG)];exact ⟨0,[],zu HCK,.inr ⟨rfl,.inr ⟨zu HALO,.inr ⟨D,zu HRUN,rfl,rfl,rfl⟩⟩⟩⟩
     have HD:=hide hbu;have HBE:=hide (bc (zu HB) hbw);clear hord hbu hrow hbw;go_wp2_with fail;refine bodyPost_ret (v:=.tuple #[.pointer (some ⟨g,0,none⟩),.int .i64 0,.slice (some ⟨W5.heap.size,0,none⟩) 0 0]) (by simp [results,Tryz.results44,go_sem]) rfl ?_;have hge:=zu HGE;have hbs:=(zu HB).size;have hlt4:=zu HLT4;have hsz3:=zu HSZ3;have hszB:=zu HSZ;refine ⟨⟨0,[],some D,_,_,rfl,zu HD,own_made W5 9 _ 1 (zu HBE).size _ rfl,fun D' e => ?_⟩,ba (zu HBE) _⟩
     cases e
     exact ⟨zu HF,zu HOKD,by have:=zu HDL;omega,g,gf,gb,B,ud,cd,uo2,co2,rfl,(zu HMD).bel (ba (bfl _ _) _),⟨by omega,by omega,by omega⟩,⟨by omega,by omega,by omega,by simp;omega⟩,zu HNE⟩
open Go.ChangeShapes Go.WideShapes Go.ChangeAt Go.RowKit
theorem own_popW {w : World} {B t k g n m cap : Nat} {L : List Value} (h : w.ownsRow B t k (.slice (some ⟨g,0,none⟩) n cap) n L) (hm : m ≤ n) : w.ownsRow B t k (.slice (some ⟨g,0,none⟩) m cap) m (L.take (m * k)):=by
 have hl:=h.1
 rcases h.2 with ⟨h1,_⟩ | ⟨g',cap',cur,hv,hB,hh,hn,hx,hs,ht⟩
 ·cases h1
 ·cases hv
  have hmk : m * k ≤ n * k:=Nat.mul_le_mul_right k hm;refine ⟨by rw [List.length_take,hl];exact Nat.min_eq_left hmk,.inr ⟨g,cap,cur,rfl,hB,hh,Nat.le_trans hm hn,hx,hs,?_⟩⟩;rw [← ht,List.take_take,Nat.min_eq_left hmk]
theorem own_sm {w : World} {B t k n : Nat} {v : Value} {L : List Value} (h : w.ownsRow B t k v n L) (hv : v ≠ .slice none 0 0) : ∃ g cap,v = .slice (some ⟨g,0,none⟩) n cap ∧ B ≤ g ∧ g < w.heap.size ∧ n ≤ cap ∧ cap ≤ maxLen:=by
 rcases h.2 with ⟨h1,_⟩ | ⟨g,cap,cur,hv',hB,hh,hn,hx,hs,ht⟩
 ·exact absurd h1 hv
 ·exact ⟨g,cap,hv',hB,(Array.getElem?_eq_some_iff.1 hh).1,hn,hx⟩
theorem own_cells {w : World} {B t k n g cap : Nat} {L : List Value} (h : w.ownsRow B t k (.slice (some ⟨g,0,none⟩) n cap) n L) {j : Nat} {x : Value} (hj : L[j]? = some x) : w.cell? ⟨g,j,none⟩ = some x:=by
 rcases h.2 with ⟨h1,_⟩ | ⟨g',cap',cur,hv',hB,hh,hn,hx,hs,ht⟩
 ·cases h1
 ·cases hv'
  have h1 : (cur.toList.take (n * k))[j]? = some x:=by rw [ht];exact hj
  simp only [World.cell?];rw [hh];rw [List.getElem?_take] at h1
  split at h1
  ·simpa using h1
  ·cases h1
theorem own_moreV {B t k n m : Nat} {wr W2 w1 : World} {v v' : Value} {L news : List Value} (hbel : Below B wr W2) (hB : B ≤ W2.heap.size) (hown : wr.ownsRow B t k v n L)
  (hown' : w1.ownsRow B t k v' (n + m) (L ++ news)) (hgrow : W2.grownBy w1 v.ownBlock) :
  w1.ownsRow B t k v' (n + m) (L ++ news) ∧ Below B wr w1 :=
  ⟨hown',hbel.grown hgrow hB (fun j hj => (own_ge hown j hj).1)⟩
theorem own_firstV {B t k m : Nat} {wr W2 w1 : World} {g : Nat} {v' : Value} {news : List Value} (hbel : Below B wr W2) (hB : B ≤ W2.heap.size) (hg : B ≤ g)
  (hown' : w1.ownsRow B t k v' (0 + m) ([] ++ news)) (hgrow : W2.grownBy w1 (Value.slice (.some ⟨g,0,none⟩) 0 0).ownBlock) :
  w1.ownsRow B t k v' m news ∧ Below B wr w1 :=
  ⟨by have:=hown';rw [Nat.zero_add] at this;exact this,hbel.grown hgrow hB (fun j hj => by cases hj;exact hg)⟩
theorem strs_oneL {L : List ByteArray} : ∀ u ∈ strs L,u.oneCell' = true:=by
 intro u hu;obtain ⟨x,_,rfl⟩:=List.mem_map.1 hu;rfl
theorem strs_len (L : List ByteArray) : (strs L).length = L.length:=by simp [strs]
theorem strs_at {L : List ByteArray} {i : Nat} {s : ByteArray} (h : L[i]? = some s) : (strs L)[i]? = some (.string s):=by simp [strs,h]
theorem strs_app (a b : List ByteArray) : strs (a ++ b) = strs a ++ strs b:=by simp [strs]
theorem psn_step {A : List ByteArray} {p : ByteArray} {k : Nat} (hk : k ≤ psn A p) : (k < psn A p → ∃ q,A[k]? = .some q ∧ tl q p = true) ∧ (¬ k < psn A p → k = psn A p ∧ (k = A.length ∨ ∃ q,A[k]? = .some q ∧ tl q p = false)) ∧ psn A p ≤ A.length:=by
 have hle : psn A p ≤ A.length:=(List.takeWhile_sublist _).length_le;refine ⟨fun h => ?_,fun h => ⟨by omega,?_⟩,hle⟩
 ·have h1 : k < (A.takeWhile fun a => tl a p).length:=h
  have h2:=List.getElem?_eq_getElem h1;have h3:=List.mem_of_getElem? h2;have h4:=List.all_eq_true.1 (List.all_takeWhile (p:=fun a => tl a p) (l:=A)) _ h3
  have h5 : (A.takeWhile fun a => tl a p)[k]? = A[k]?:=by
   have:=List.takeWhile_prefix (l:=A) (fun a => tl a p);obtain ⟨r,hr⟩:=this;rw [← hr,List.getElem?_append_left h1]
   congr 1
   rw [hr]
  exact ⟨_,h5 ▸ h2,h4⟩
 ·by_cases he : k = A.length
  ·exact .inl he
  ·right
   have hk2 : k < A.length:=by omega
   refine ⟨_,List.getElem?_eq_getElem hk2,?_⟩;have ek : k = psn A p:=by omega
   have hd : A.dropWhile (fun a => tl a p) ≠ []:=by
    intro e;have:=List.takeWhile_append_dropWhile (p:=fun a => tl a p) (l:=A);rw [e,List.append_nil] at this;have : A.length = psn A p:=by unfold psn;rw [this]
    omega
   have h1:=List.head_dropWhile_not (fun a => tl a p) hd
   have h2 : A[k] = (A.dropWhile fun a => tl a p).head hd:=by
    have e:=List.takeWhile_append_dropWhile (p:=fun a => tl a p) (l:=A);have : A[k]? = ((A.takeWhile fun a => tl a p) ++ A.dropWhile fun a => tl a p)[k]?:=by rw [e]
    rw [List.getElem?_append_right (by show psn A p ≤ k;omega)] at this;rw [show k - (A.takeWhile fun a => tl a p).length = 0 by show k - psn A p = 0;omega] at this;rw [List.getElem?_eq_getElem hk2,← List.head?_eq_getElem?,List.head?_eq_some_head hd] at this;exact Option.some.inj this
   rw [h2]
   simpa using h1
def wbN (b : Bx) (n : Nat) (x y z : Int) : List Bx:=(List.range n).map fun (t : Nat) => mvB b (((t : Int) + 1) * x) (((t : Int) + 1) * y) (((t : Int) + 1) * z)
theorem wbN_succ (b : Bx) (n : Nat) (x y z : Int) : wbN b (n + 1) x y z = wbN b n x y z ++ [mvB b (((n : Int) + 1) * x) (((n : Int) + 1) * y) (((n : Int) + 1) * z)]:=by
 unfold wbN;rw [List.range_succ,List.map_append];rfl
theorem wbN_len (b : Bx) (n : Nat) (x y z : Int) : (wbN b n x y z).length = n:=by simp [wbN]
def Bxs (l : List Bx) (w : World) (e : Ending) (w' : World) : Prop:=(∃ u p n cu,e = .returned (.slice u n cu) ∧ l.length = n ∧ SlG bxc 6 w' u p 0 l ∧ (l ≠ [] → w.heap.size ≤ p)) ∧ Below w.heap.size w w'
theorem slG_one {w : World} {g : Nat} {b : Bx} (h : vb w g 41 (bxc b)) : SlG bxc 6 w (some ⟨g,0,none⟩) g 0 [b]:=by
 intro _;refine ⟨rfl,h.lt,fun i a ha j v hv => ?_⟩
 obtain ⟨rfl⟩ : i = 0:=by
  have:=(List.getElem?_eq_some_iff.1 ha).1;simp at this;exact this
 cases ha
 simp only [Nat.zero_mul,Nat.zero_add];exact h.cell hv
theorem one_bxs {b : Bx} {w w' : World} {e : Ending} (h : (∃ g,e = .returned (.slice (some ⟨g,0,none⟩) 1 1) ∧ w.heap.size ≤ g ∧ vb w' g 41 (bxc b)) ∧ Below w.heap.size w w') : Bxs [b] w e w':=by
 obtain ⟨⟨g,rfl,hg,hv⟩,hb⟩:=h;exact ⟨⟨_,g,1,1,rfl,rfl,slG_one hv,fun _ => hg⟩,hb⟩
theorem own_slB {α : Type} {c : α → List Value} {k : Nat} (hc : ∀ a,(c a).length = k) {w : World} {B t n cap : Nat} {u : Option Addr} {l : List α} (h : w.ownsRow B t k (.slice u n cap) n (flatG c l)) (hl : l.length = n) : ∃ p,SlG c k w u p 0 l ∧ (l ≠ [] → B ≤ p):=by
 by_cases h0 : n = 0
 ·have : l = []:=List.eq_nil_of_length_eq_zero (by omega)
  subst this;exact ⟨0,fun q => absurd rfl q,fun q => absurd rfl q⟩
 ·obtain ⟨g,rfl,hB,hg,hx⟩:=own_rowc hc h h0
  exact ⟨g,fun _ => ⟨rfl,hg,fun i a ha j v hv => by rw [Nat.zero_add];exact hx i a ha j v hv⟩,fun _ => hB⟩
theorem oneB (b : Bx) : ∀ u ∈ bxc b,u.oneCell' = true:=by simp [bxc,Value.oneCell']
theorem mul8 {a : Int} {n : Nat} (ha : -24 ≤ a ∧ a ≤ 24) (hn : n ≤ 8) : -1000 ≤ a * n ∧ a * n ≤ 1000:=by
 have h1 : a * (n : Int) ≥ -24 * (n : Int):=Int.mul_le_mul_of_nonneg_right ha.1 (by omega);have h2 : a * (n : Int) ≤ 24 * (n : Int):=Int.mul_le_mul_of_nonneg_right ha.2 (by omega);omega
theorem rowBoxes240_any (b : Bx) (ct : Nat) (x y z : Int) (w : World) (hct : ct ≤ 8) (hb : bxS 100000 b) (hx : -24 ≤ x ∧ x ≤ 24) (hy : -24 ≤ y ∧ y ≤ 24) (hz : -24 ≤ z ∧ z ≤ 24) :
  Calls Tryz.prog 251 #[.agg #[.iface 240 (bxv b),.int .i64 (ct : Int),.int .i64 x,.int .i64 y,.int .i64 z]] w (Bxs (wbN b ct x y z) w):=by
 have HTM:=hide (fun (n : Nat) (hn : n ≤ 8) W => times_any x y z n W hx hy hz hn);have HWM:=hide (fun (n : Nat) (hn : n ≤ 8) W => workMoved_any 240 b (x * (n : Int)) (y * (n : Int)) (z * (n : Int)) W (.inl rfl) hb (mul8 hx hn) (mul8 hy hn) (mul8 hz hn));clear hb hx hy hz;go_enter Tryz.func251,Tryz.ntmps251;go_wp2_with fail
 obtain ⟨W0,hW0⟩ : ∃ W,W = w.alloc (.cells #[.iface 240 (bxv b),.int .i64 (ct : Int),.int .i64 x,.int .i64 y,.int .i64 z] 243):=⟨_,rfl⟩
 rw [← hW0];have hb0 : Below w.heap.size w W0:=by rw [hW0];exact ba (bfl _ _) _
 have hv0 : vb W0 w.heap.size 243 [.iface 240 (bxv b),.int .i64 (ct : Int),.int .i64 x,.int .i64 y,.int .i64 z]:=by rw [hW0];exact vb_new w 243 _ _ rfl
 have HB0:=hide hb0;have HV0:=hide hv0;clear hW0 hb0 hv0
 go_loopw [3,7] (fun s3 s7 W => ∃ (i : Nat) (v : Value),s7 = .int .i64 (i : Int) ∧ i ≤ ct ∧ s3 = v ∧ W.ownsRow (w.heap.size + 1) 41 6 v i (flatG bxc (wbN b i x y z)) ∧ vb W w.heap.size 243 [.iface 240 (bxv b),.int .i64 (ct : Int),.int .i64 x,.int .i64 y,.int .i64 z] ∧ Below w.heap.size w W) (fun _ s7 _ => ct - (intOf s7).toNat)
 case atStart => exact ⟨0,_,rfl,Nat.zero_le _,rfl,World.ownsRow_nil _ _ _ _,zu HV0,zu HB0⟩
 case round =>
  clear HV0 HB0;obtain ⟨i,v,rfl,hi,rfl,hr,hv,hb⟩:=hrel;have HR:=hide hr;have HV:=hide hv;have HB:=hide hb;clear hr hv hb
  by_cases h : i < ct
  ·have iz : decide ((i : Int) < (ct : Int)) = true:=dt (by omega)
   have i1 : (i : Int) < (ct : Int):=by omega
   have wi : IntKind.i64.wrap ((i : Int) + 1) = ((i + 1 : Nat) : Int):=(wrap_i (by omega) (by omega)).trans (by simp);have HI:=hide h;have HWI:=hide wi
   go_upto_region 5 with fail
   refine Go.Code.wp_mono (Only.to (fun _ _ h => h)) (wk5b (B:=w.heap.size + 1) (m:=i) (L:=flatG bxc (wbN b i x y z)) (L1:=bxc (mvB b (x * ((i + 1 : Nat) : Int)) (y * ((i + 1 : Nat) : Int)) (z * ((i + 1 : Nat) : Int)))) HR (by have:=(zu HV).lt;omega) (by omega) (hide rfl) (hide (oneB _)) (hide ((zu HV).cell (m:=0) rfl)) (hide ((zu HV).cell (m:=2) rfl)) (hide ((zu HV).cell (m:=3) rfl)) (hide ((zu HV).cell (m:=4) rfl)) HWI
    (hide fun X _ => zu HTM (i + 1) (by have:=zu HI;omega) X) (hide fun X _ => zu HWM (i + 1) (by have:=zu HI;omega) X) (hide fun X _ => (bBoxes240_any _ X).mono (by rintro e w' ⟨⟨g,rfl,_,hv⟩,hb⟩;exact ⟨⟨_,rfl,g,rfl,hv⟩,hb⟩)) ?_)
   intro vq rr W1 W9 hb1 hr9 hg9;have HR9:=hide hr9;have hkp : Below (w.heap.size + 1) wr W9:=(hb1.mono (by have:=(zu HV).lt;omega)).grown hg9 (by have:=hb1.size;have:=(zu HV).lt;omega) (fun j hj => (own_ge (zu HR) j hj).1);have HK9:=hide hkp;clear hb1 hr9 hg9 hkp;have wi':=zu HWI;go_wp2_with fail;go_roundw
   case rel =>
    refine ⟨i + 1,rr,by simp,zu HI,rfl,?_,(zu HV).below (zu HK9) (Nat.lt_succ_self _),(zu HB).trans ((zu HK9).mono (Nat.le_succ _))⟩;have h9:=zu HR9;rw [wbN_succ,flatG_append]
    have e1 : mvB b (x * ((i + 1 : Nat) : Int)) (y * ((i + 1 : Nat) : Int)) (z * ((i + 1 : Nat) : Int)) = mvB b (((i : Int) + 1) * x) (((i : Int) + 1) * y) (((i : Int) + 1) * z):=by
     rw [Int.mul_comm x,Int.mul_comm y,Int.mul_comm z,Int.natCast_add];rfl
    rw [e1] at h9
    simpa [flatG] using h9
   case measure => have:=zu HI;simp only [intOf];omega
  ·obtain rfl : i = ct:=by omega
   have iz : decide ((i : Int) < (i : Int)) = false:=df (by omega);obtain ⟨u,cap,rfl,_⟩:=own_form (zu HR);go_wp2_with fail;go_ret;obtain ⟨p,hp,hpB⟩:=own_slB bxc_len (zu HR) (wbN_len b i x y z);exact ⟨⟨u,p,i,cap,rfl,wbN_len b i x y z,hp,fun h => Nat.le_of_succ_le (hpB h)⟩,zu HB⟩
theorem rowBoxes241_any (b : Bx) (ct : Nat) (x y z : Int) (w : World) (hct : ct ≤ 8) (hb : bxS 100000 b) (hx : -24 ≤ x ∧ x ≤ 24) (hy : -24 ≤ y ∧ y ≤ 24) (hz : -24 ≤ z ∧ z ≤ 24) :
  Calls Tryz.prog 251 #[.agg #[.iface 241 (bxv b),.int .i64 (ct : Int),.int .i64 x,.int .i64 y,.int .i64 z]] w (Bxs (wbN b ct x y z) w):=by
 have HTM:=hide (fun (n : Nat) (hn : n ≤ 8) W => times_any x y z n W hx hy hz hn);have HWM:=hide (fun (n : Nat) (hn : n ≤ 8) W => workMoved_any 241 b (x * (n : Int)) (y * (n : Int)) (z * (n : Int)) W (.inr rfl) hb (mul8 hx hn) (mul8 hy hn) (mul8 hz hn));clear hb hx hy hz;go_enter Tryz.func251,Tryz.ntmps251;go_wp2_with fail
 obtain ⟨W0,hW0⟩ : ∃ W,W = w.alloc (.cells #[.iface 241 (bxv b),.int .i64 (ct : Int),.int .i64 x,.int .i64 y,.int .i64 z] 243):=⟨_,rfl⟩
 rw [← hW0];have hb0 : Below w.heap.size w W0:=by rw [hW0];exact ba (bfl _ _) _
 have hv0 : vb W0 w.heap.size 243 [.iface 241 (bxv b),.int .i64 (ct : Int),.int .i64 x,.int .i64 y,.int .i64 z]:=by rw [hW0];exact vb_new w 243 _ _ rfl
 have HB0:=hide hb0;have HV0:=hide hv0;clear hW0 hb0 hv0
 go_loopw [3,7] (fun s3 s7 W => ∃ (i : Nat) (v : Value),s7 = .int .i64 (i : Int) ∧ i ≤ ct ∧ s3 = v ∧ W.ownsRow (w.heap.size + 1) 41 6 v i (flatG bxc (wbN b i x y z)) ∧ vb W w.heap.size 243 [.iface 241 (bxv b),.int .i64 (ct : Int),.int .i64 x,.int .i64 y,.int .i64 z] ∧ Below w.heap.size w W) (fun _ s7 _ => ct - (intOf s7).toNat)
 case atStart => exact ⟨0,_,rfl,Nat.zero_le _,rfl,World.ownsRow_nil _ _ _ _,zu HV0,zu HB0⟩
 case round =>
  clear HV0 HB0;obtain ⟨i,v,rfl,hi,rfl,hr,hv,hb⟩:=hrel;have HR:=hide hr;have HV:=hide hv;have HB:=hide hb;clear hr hv hb
  by_cases h : i < ct
  ·have iz : decide ((i : Int) < (ct : Int)) = true:=dt (by omega)
   have i1 : (i : Int) < (ct : Int):=by omega
   have wi : IntKind.i64.wrap ((i : Int) + 1) = ((i + 1 : Nat) : Int):=(wrap_i (by omega) (by omega)).trans (by simp);have HI:=hide h;have HWI:=hide wi
   go_upto_region 5 with fail
   refine Go.Code.wp_mono (Only.to (fun _ _ h => h)) (wk5p (B:=w.heap.size + 1) (m:=i) (L:=flatG bxc (wbN b i x y z)) (L1:=bxc (mvB b (x * ((i + 1 : Nat) : Int)) (y * ((i + 1 : Nat) : Int)) (z * ((i + 1 : Nat) : Int)))) HR (by have:=(zu HV).lt;omega) (by omega) (hide rfl) (hide (oneB _)) (hide ((zu HV).cell (m:=0) rfl)) (hide ((zu HV).cell (m:=2) rfl)) (hide ((zu HV).cell (m:=3) rfl)) (hide ((zu HV).cell (m:=4) rfl)) HWI
    (hide fun X _ => zu HTM (i + 1) (by have:=zu HI;omega) X) (hide fun X _ => zu HWM (i + 1) (by have:=zu HI;omega) X) (hide fun X _ => (bBoxes241_any _ X).mono (by rintro e w' ⟨⟨g,rfl,_,hv⟩,hb⟩;exact ⟨⟨_,rfl,g,rfl,hv⟩,hb⟩)) ?_)
   intro vq rr W1 W9 hb1 hr9 hg9;have HR9:=hide hr9;have hkp : Below (w.heap.size + 1) wr W9:=(hb1.mono (by have:=(zu HV).lt;omega)).grown hg9 (by have:=hb1.size;have:=(zu HV).lt;omega) (fun j hj => (own_ge (zu HR) j hj).1);have HK9:=hide hkp;clear hb1 hr9 hg9 hkp;have wi':=zu HWI;go_wp2_with fail;go_roundw
   case rel =>
    refine ⟨i + 1,rr,by simp,zu HI,rfl,?_,(zu HV).below (zu HK9) (Nat.lt_succ_self _),(zu HB).trans ((zu HK9).mono (Nat.le_succ _))⟩;have h9:=zu HR9;rw [wbN_succ,flatG_append]
    have e1 : mvB b (x * ((i + 1 : Nat) : Int)) (y * ((i + 1 : Nat) : Int)) (z * ((i + 1 : Nat) : Int)) = mvB b (((i : Int) + 1) * x) (((i : Int) + 1) * y) (((i : Int) + 1) * z):=by
     rw [Int.mul_comm x,Int.mul_comm y,Int.mul_comm z,Int.natCast_add];rfl
    rw [e1] at h9
    simpa [flatG] using h9
   case measure => have:=zu HI;simp only [intOf];omega
  ·obtain rfl : i = ct:=by omega
   have iz : decide ((i : Int) < (i : Int)) = false:=df (by omega);obtain ⟨u,cap,rfl,_⟩:=own_form (zu HR);go_wp2_with fail;go_ret;obtain ⟨p,hp,hpB⟩:=own_slB bxc_len (zu HR) (wbN_len b i x y z);exact ⟨⟨u,p,i,cap,rfl,wbN_len b i x y z,hp,fun h => Nat.le_of_succ_le (hpB h)⟩,zu HB⟩
end Go.Proofs.YtkiplmabjeadgaaGreat
