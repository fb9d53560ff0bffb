/- The program's face of squares. -/
import Derived.Test.YtkiplmabjeadgaaGreatBpTkR
import Derived.Test.YtkiplmabjeadgaaGreatBpR3R
namespace Go.Proofs.YtkiplmabjeadgaaGreat
set_option maxRecDepth 100000
set_option maxHeartbeats 16000000
open Go.ChangeShapes Go.WideShapes Go.ChangeAt Go.RowKit Go.Maps Go.WideMaps
set_option linter.unusedVariables false
set_option linter.unusedSimpArgs false
def fromK (K : Nat) (j : Nat) : Bool:=decide (K ≤ j)
theorem lfS_up {l : List Bx} (h : l.Nodup) {K : Nat} {b : Bx} (hK : l[K]? = some b) : upS (lfS l (fromK K)) b = lfS l (fromK (K + 1)):=by
 funext c
 unfold upS
 by_cases e : c = b
 ·subst e
  rw [if_pos rfl,lfS_at h hK];unfold fromK;simp
 ·rw [if_neg e,Bool.eq_iff_iff,lfS_iff,lfS_iff]
  unfold fromK;simp only [decide_eq_false_iff_not];constructor
  ·rintro ⟨k,hk,hs⟩
   exact ⟨k,hk,by omega⟩
  ·rintro ⟨k,hk,hs⟩
   have : k ≠ K:=fun e2 => e (by rw [e2,hK] at hk;cases hk;rfl)
   exact ⟨k,hk,by omega⟩
theorem lfS_none (l : List Bx) : lfS l (fromK 0) = fun _ => false:=by
 funext c
 cases e : lfS l (fromK 0) c with
 | false => rfl
 | true =>
  obtain ⟨k,_,hs⟩:=lfS_iff.1 e;unfold fromK at hs;simp at hs
theorem piecesP_any (l : List Bx) (n cu p po : Nat) (u : Option Addr) (w : World) (hl : l.length = n) (hn : n ≤ 100000) (hnd : l.Nodup) (hsm : ∀ b ∈ l,bxS 1000 b) (hu : SlG bxc 6 w u p po l) :
  Calls Tryz.prog 124 #[.slice u n cu] w fun e w' => e = .returned (.int .i64 ((pcs (tcP l) n n : Nat) : Int)) ∧ Below w.heap.size w w':=by
 have HL:=hide hl;have HND:=hide hnd;have HSM:=hide hsm;have HU:=hide (fun W (h : Below w.heap.size w W) => hu.bel h);have HPL:=hide (pcs_le (tcP l) n);have HTK:=hide (fun bm cap i b S W => takeP_any l n bm cap i b S W hl hn hnd hsm);have hmm:=@run_makeMap Tryz.prog;have HM0:=hide (MpS.made w);rw [← lfS_none l] at HM0;have HB0:=hide (ba (bfl w.heap.size w) (.map #[] 0));clear hl hnd hsm hu;go_enter Tryz.func124,Tryz.ntmps124;go_wp2_with fail;clear hmm
 go_loopw [14] (fun s W => ∃ i : Nat,s = .int .i64 (i : Int) ∧ i ≤ n ∧ MpS W w.heap.size i (lfS l (fromK i)) ∧ Below w.heap.size w W) (fun s _ => n - (intOf s).toNat)
 case atStart => exact ⟨0,rfl,Nat.zero_le _,zu HM0,zu HB0⟩
 case round =>
  clear HM0 HB0;obtain ⟨i,rfl,hi,hm,hb⟩:=hrel;have HM:=hide hm;have HB:=hide hb;clear hm
  by_cases h : i < n
  ·have i1 : (i : Int) < (n : Int):=by omega
   have i0 : (0 : Int) ≤ (i : Int):=Int.natCast_nonneg _;have iz : decide ((i : Int) < (n : Int)) = true:=dt i1;have wi : IntKind.i64.wrap ((i : Int) + 1) = ((i + 1 : Nat) : Int):=(wrap_i (by omega) (by omega)).trans (by simp);obtain ⟨⟨b0,b1,b2,b3,b4,b5⟩,hx⟩:=get_some (zu HL) h;obtain ⟨rfl,hpw,hc⟩:=(zu HU _ hb).at hx;have x0:=hc 0 _ rfl;have x1:=hc 1 _ rfl;have x2:=hc 2 _ rfl;have x3:=hc 3 _ rfl;have x4:=hc 4 _ rfl;have x5:=hc 5 _ rfl;rw [Nat.add_zero] at x0;have HS:=hide (bxS_mono (zu HSM _ (List.mem_of_getElem? hx)) (show (1000 : Int) ≤ 1000000 by omega))
   have HUP:=hide (lfS_up (zu HND) hx);have HVB:=hide (vb_new wr 41 (bxc ⟨b0,b1,b2,b3,b4,b5⟩) wr.heap.size rfl);have HMA:=hide ((zu HM).bel (ba (bfl wr.heap.size wr) (.cells (bxc ⟨b0,b1,b2,b3,b4,b5⟩).toArray 41)));have HWF:=hide (wf64 (a:=(i : Int)) (by omega));have HBA:=hide (ba hb (.cells (bxc ⟨b0,b1,b2,b3,b4,b5⟩).toArray 41));clear hc hx hb
   go_wp2_with (refine wpl_putS _ rfl _ _ _ rfl w.heap.size i _ rfl (zu HMA) (by unfold maxLen;omega) ⟨b0,b1,b2,b3,b4,b5⟩ (i : Int) rfl rfl (zu HS) (zu HWF) ?_;intro w3 hm3 htt;have HM3:=hide hm3;have HTT:=hide (Tm.turned htt);clear hm3 htt)
   have HB3:=hide (show Below w.heap.size w w3 from by
    have h1:=zu HBA;have h2:=zu HTT
    exact ⟨h2.os.trans h1.os,h2.tape.trans h1.tape,h2.output.trans h1.output,Nat.le_trans h1.size h2.size,fun k hk => (h2.block k (Nat.lt_of_lt_of_le hk h1.size) (by omega)).trans (h1.block k hk)⟩)
   rw [zu HUP] at HM3;clear x0 x1 x2 x3 x4 x5;go_roundw
   case rel => exact ⟨i + 1,rfl,h,zu HM3,zu HB3⟩
   case measure => simp only [intOf];omega
  ·obtain rfl : i = n:=by omega
   have HBz:=hide hb
   have HS0:=hide (show ∀ k,k < i → (fromK i k = true ↔ Sn (tcP l) i 0 k) from fun k hk => by
    unfold fromK;rw [decide_eq_true_eq]
    exact ⟨fun h => by omega,fun ⟨j,hj,_⟩ => by omega⟩)
   have iz : decide ((i : Int) < (i : Int)) = false:=df (by omega);clear hb h hi;go_wp2_with fail
   go_loopw [6,25] (fun s6 s25 W => ∃ (j : Nat) (S : Nat → Bool),s6 = .int .i64 ((pcs (tcP l) i j : Nat) : Int) ∧ s25 = .int .i64 (j : Int) ∧ j ≤ i ∧ (∀ k,k < i → (S k = true ↔ Sn (tcP l) i j k)) ∧ MpS W w.heap.size i (lfS l S) ∧ Below w.heap.size w W ∧ w.heap.size < W.heap.size) (fun _ s25 _ => i - (intOf s25).toNat)
   case atStart => exact ⟨0,_,rfl,rfl,Nat.zero_le _,zu HS0,zu HM,zu HBz,(zu HM).lt⟩
   case round =>
    clear HM HBz HS0;obtain ⟨j,S,rfl,rfl,hj,hs,hm,hb,hlt⟩:=hrel;have HSS:=hide hs;have HM:=hide hm;have HB:=hide hb;have HLT:=hide hlt;clear hs hm hlt
    by_cases h : j < i
    ·have i1 : (j : Int) < (i : Int):=by omega
     have i0 : (0 : Int) ≤ (j : Int):=Int.natCast_nonneg _;have jz : decide ((j : Int) < (i : Int)) = true:=dt i1;have wj : IntKind.i64.wrap ((j : Int) + 1) = ((j + 1 : Nat) : Int):=(wrap_i (by omega) (by omega)).trans (by simp);obtain ⟨b,hx⟩:=get_some (zu HL) h;have hSm:=zu HSM _ (List.mem_of_getElem? hx);have hat:=lfS_at (zu HND) (S:=S) hx;have HX:=hide hx;have hpl:=zu HPL j;have wp : IntKind.i64.wrap (((pcs (tcP l) i j : Nat) : Int) + 1) = ((pcs (tcP l) i j + 1 : Nat) : Int):=(wrap_i (by omega) (by omega)).trans (by simp);have HWP:=hide wp
     have HSm:=hide (bxS_mono hSm (show (1000 : Int) ≤ 1000000 by omega));obtain ⟨b0,b1,b2,b3,b4,b5⟩:=b;obtain ⟨rfl,hpw,hc⟩:=(zu HU _ hb).at hx;have x0:=hc 0 _ rfl;have x1:=hc 1 _ rfl;have x2:=hc 2 _ rfl;have x3:=hc 3 _ rfl;have x4:=hc 4 _ rfl;have x5:=hc 5 _ rfl;rw [Nat.add_zero] at x0;have HMA:=hide ((zu HM).bel (ba (bfl wr.heap.size wr) (.cells (bxc ⟨b0,b1,b2,b3,b4,b5⟩).toArray 41)));obtain ⟨z,hz⟩:=(zu HMA).look (zu HSm);rw [hat] at hz;unfold bxv bxc at hz;simp only [List.toArray] at hz
     have HBA:=hide (ba hb (.cells (bxc ⟨b0,b1,b2,b3,b4,b5⟩).toArray 41));have HJI:=hide h;clear hc hx hb hSm hat wp hpl
     cases hsj : S j with
     | true =>
      rw [hsj] at hz;have hseen:=(zu HSS j h).1 hsj;have HPC:=hide (pcs_seen hseen);have HS2:=hide (show ∀ k,k < i → (S k = true ↔ Sn (tcP l) i (j + 1) k) from fun k hk => (zu HSS k hk).trans hseen.seen.symm);clear hsj hseen;go_wp2_with fail;go_roundw
      case rel => exact ⟨j + 1,S,by rw [zu HPC],rfl,by have:=zu HJI;omega,zu HS2,zu HMA,zu HBA,by have:=zu HLT;simp;omega⟩
      case measure => have:=zu HJI;simp only [intOf];omega
     | false =>
      rw [hsj] at hz;have hnew : ¬ Sn (tcP l) i j j:=fun e => by rw [(zu HSS j h).2 e] at hsj;cases hsj
      have HPC:=hide (pcs_new hnew);have HTK2:=hide (zu HTK w.heap.size i j ⟨b0,b1,b2,b3,b4,b5⟩ S (wr.alloc (.cells (bxc ⟨b0,b1,b2,b3,b4,b5⟩).toArray 41)) (zu HX) (zu HSS) hsj (zu HMA));unfold bxv bxc at HTK2;have HVB:=hide (vb_new wr 41 (bxc ⟨b0,b1,b2,b3,b4,b5⟩) wr.heap.size rfl);clear hsj hnew;go_wp2_with fail;refine (zu HTK2).mono ?_;rintro e W2 ⟨⟨r,rfl⟩,⟨S',hs',hm'⟩,ht'⟩;have HS':=hide hs';have HM':=hide hm';have wp:=zu HWP
      have HB':=hide (show Below w.heap.size w W2 from by
       have h1:=zu HBA
       exact ⟨ht'.os.trans h1.os,ht'.tape.trans h1.tape,ht'.output.trans h1.output,Nat.le_trans h1.size ht'.size,fun k hk => (ht'.block k (Nat.lt_of_lt_of_le hk h1.size) (by omega)).trans (h1.block k hk)⟩)
      have HL':=hide (show w.heap.size < W2.heap.size from by have h1:=zu HLT;have h2:=ht'.size;simp at h2;omega);clear hs' hm' ht' hz x0 x1 x2 x3 x4 x5;go_wp2_with fail;go_roundw
      case rel => exact ⟨j + 1,S',by rw [zu HPC];simp,rfl,by have:=zu HJI;omega,zu HS',zu HM',zu HB',zu HL'⟩
      case measure => have:=zu HJI;simp only [intOf];omega
    ·obtain rfl : j = i:=by omega
     have jz : decide ((j : Int) < (j : Int)) = false:=df (by omega);clear hb;go_wp2_with fail;go_ret;exact ⟨rfl,zu HB⟩
theorem with_any (a b : Bx) (w : World) : Calls Tryz.prog 125 #[bxv a,bxv b] w fun e w' => e = .returned (bxv (arn a b)) ∧ Below w.heap.size w w':=by
 obtain ⟨ax0,ay0,az0,ax1,ay1,az1⟩:=a;obtain ⟨bx0',by0,bz0,bx1,by1,bz1⟩:=b;unfold arn bxv;simp only;go_enter Tryz.func125,Tryz.ntmps125;go_wp2_with fail;refine bodyPost_ret (v:=.agg #[.int .i64 (min ax0 bx0'),.int .i64 (min ay0 by0),.int .i64 (min az0 bz0),.int .i64 (max ax1 bx1),.int .i64 (max ay1 by1),.int .i64 (max az1 bz1)]) (by simp [results,Tryz.results125,go_sem];done) rfl ?_;refine ⟨rfl,?_⟩
 repeat (first | exact bfl _ _ | refine Below.setCell ?_ (Nat.le_refl _) _ | refine Below.setCell ?_ (by simp) _ | refine ba ?_ _)
def fcN (nm : ByteArray) (s a n : Int) (b : Bx) : Value:=.agg #[.string nm,.int .i64 s,.int .i64 a,.int .i64 n,.int .i64 b.x0,.int .i64 b.y0,.int .i64 b.z0,.int .i64 b.x1,.int .i64 b.y1,.int .i64 b.z1]
def fcLn (nm : ByteArray) (s a n : Int) (b : Bx) : List Value:=.string nm :: .int .i64 s :: .int .i64 a :: .int .i64 n :: bxc b
noncomputable def fcP (nm : ByteArray) (sd : Nat) (l : List Bx) : Value:=open Classical in if l = [] then fcN ⟨#[]⟩ 0 0 0 bx0 else fcN nm sd (l.length : Int) ((pcs (tcP l) l.length l.length : Nat) : Int) (hul l)
def huK (l : List Bx) (i : Nat) : Bx:=if i = 0 then l.getD 0 bx0 else hul (l.take i)
theorem huK_succ {l : List Bx} {i : Nat} {b : Bx} (h : l[i]? = some b) : arn (huK l i) b = huK l (i + 1):=by
 unfold huK;rw [if_neg (Nat.succ_ne_zero i),List.take_add_one,h]
 by_cases e : i = 0
 ·subst e
  rw [if_pos rfl,List.getD_eq_getElem?_getD,h];simp only [Option.getD_some,List.take_zero,List.nil_append,Option.toList_some];rw [arn_self];rfl
 ·rw [if_neg e]
  have hne : l.take i ≠ []:=by
   intro h0;have h1:=congrArg List.length h0;rw [List.length_take,List.length_nil] at h1;have:=(List.getElem?_eq_some_iff.1 h).1;omega
  exact (hul_app hne b).symm
theorem faceOf_any (nm : ByteArray) (sd : Nat) (l : List Bx) (n cu p po : Nat) (u : Option Addr) (w : World) (hl : l.length = n) (hn : n ≤ 100000) (hnd : l.Nodup) (hsm : ∀ b ∈ l,bxS 1000 b) (hu : SlG bxc 6 w u p po l) :
  Calls Tryz.prog 89 #[.string nm,.int .i64 (sd : Int),.slice u n cu] w fun e w' => e = .returned (fcP nm sd l) ∧ Below w.heap.size w w':=by
 by_cases h0 : n = 0
 ·have e0 : ((n : Int) == 0) = true:=by rw [h0];rfl
  have hfc : fcP nm sd l = fcN ⟨#[]⟩ 0 0 0 bx0:=by unfold fcP;rw [if_pos (List.eq_nil_of_length_eq_zero (by omega))]
  rw [hfc];unfold fcN bx0;clear hfc hu hsm hnd hl h0;go_enter Tryz.func89,Tryz.ntmps89;go_wp2_with fail;refine bodyPost_ret (v:=.agg #[.string ⟨#[]⟩,.int .i64 0,.int .i64 0,.int .i64 0,.int .i64 0,.int .i64 0,.int .i64 0,.int .i64 0,.int .i64 0,.int .i64 0]) (by simp [results,Tryz.results89,go_sem];done) rfl ?_;refine ⟨rfl,?_⟩
  repeat (first | exact bfl _ _ | refine Below.setCell ?_ (Nat.le_refl _) _ | refine Below.setCell ?_ (by simp) _ | refine ba ?_ _)
 ·have e0 : ((n : Int) == 0) = false:=by simpa using h0
  have hne : l ≠ []:=fun e => h0 (by rw [← hl,e];rfl)
  have hfc : fcP nm sd l = fcN nm sd (n : Int) ((pcs (tcP l) n n : Nat) : Int) (hul l):=by unfold fcP;rw [if_neg hne,hl]
  rw [hfc];have HPC:=hide (fun W (h : Below w.heap.size w W) => piecesP_any l n cu p po u W hl hn hnd hsm (hu.bel h))
  obtain ⟨pc,hpc⟩ : ∃ q,pcs (tcP l) n n = q:=⟨_,rfl⟩
  rw [hpc] at HPC ⊢;have HU:=hide (fun W (h : Below w.heap.size w W) => hu.bel h);have HL:=hide hl;have HN0:=hide (show 0 < n by omega);obtain ⟨b,hb⟩:=get_some hl (show 0 < n by omega);have HK0:=hide (show huK l 0 = b by unfold huK;rw [if_pos rfl,List.getD_eq_getElem?_getD,hb];rfl);have HB:=hide hb;have HKN:=hide (show huK l n = hul l by unfold huK;rw [if_neg h0,List.take_of_length_le (by omega)]);clear hfc hu hsm hnd hl h0 hpc hb hne;go_enter Tryz.func89,Tryz.ntmps89
  go_upto_region 3 with fail
  clear e0
  obtain ⟨W1,hW1⟩ : ∃ W,W = w.alloc (.cells #[.string ⟨#[]⟩,.int .i64 0,.int .i64 0,.int .i64 0,.int .i64 0,.int .i64 0,.int .i64 0,.int .i64 0,.int .i64 0,.int .i64 0] 43):=⟨_,rfl⟩
  rw [← hW1];have hb1 : Below w.heap.size w W1:=by rw [hW1];exact ba (bfl _ _) _
  have hr1 : vb W1 w.heap.size 43 [.string ⟨#[]⟩,.int .i64 0,.int .i64 0,.int .i64 0,.int .i64 0,.int .i64 0,.int .i64 0,.int .i64 0,.int .i64 0,.int .i64 0]:=by rw [hW1];exact vb_new w 43 _ _ rfl
  clear hW1;obtain ⟨b0,b1,b2,b3,b4,b5⟩:=b;obtain ⟨rfl,hpw,hc⟩:=(zu HU _ hb1).at (zu HB);rw [Nat.zero_mul,Nat.add_zero] at hc;have HB1:=hide hb1;have HR1:=hide hr1;refine Go.Code.wp_mono (Only.to (fun _ _ h => h)) (fo3 (pc:=pc) (hide (hc 0 _ rfl)) (hide (hc 1 _ rfl)) (hide (hc 2 _ rfl)) (hide (hc 3 _ rfl)) (hide (hc 4 _ rfl)) (hide (hc 5 _ rfl)) (hide fun X hX => zu HPC X (bc (zu HB1) hX)) HN0 ?_);intro n10 W2 hb2 hv2 hn10;have HB2:=hide (bc (zu HB1) hb2);have HV2:=hide (show vb W2 n10 43 (fcLn nm sd n pc (huK l 0)) by rw [zu HK0];exact hv2)
  have HR2:=hide ((zu HR1).bel hb2);have HN10:=hide (show w.heap.size + 1 ≤ n10 by have:=hr1.lt;omega);clear hc hb1 hr1 hb2 hv2 hn10 HB1 HR1 HK0 HPC;go_wp2_with fail
  go_loopw [26] (fun s W => ∃ i : Nat,s = .int .i64 (i : Int) ∧ i ≤ n ∧ vb W n10 43 (fcLn nm sd n pc (huK l i)) ∧ vb W w.heap.size 43 [.string ⟨#[]⟩,.int .i64 0,.int .i64 0,.int .i64 0,.int .i64 0,.int .i64 0,.int .i64 0,.int .i64 0,.int .i64 0,.int .i64 0] ∧ Below w.heap.size w W) (fun s _ => n - (intOf s).toNat)
  case atStart => exact ⟨0,rfl,Nat.zero_le _,zu HV2,zu HR2,zu HB2⟩
  case round =>
   clear HV2 HR2 HB2;obtain ⟨i,rfl,hi,hv,hr,hb⟩:=hrel;have HV:=hide hv;have HR:=hide hr;have HBi:=hide hb;clear hv hr
   by_cases h : i < n
   ·have i1 : (i : Int) < (n : Int):=by omega
    have i0 : (0 : Int) ≤ (i : Int):=Int.natCast_nonneg _;have iz : decide ((i : Int) < (n : Int)) = true:=dt i1;have wi : IntKind.i64.wrap ((i : Int) + 1) = ((i + 1 : Nat) : Int):=(wrap_i (by omega) (by omega)).trans (by simp);obtain ⟨⟨c0,c1,c2,c3,c4,c5⟩,hx⟩:=get_some (zu HL) h;obtain ⟨_,_,hc⟩:=(zu HU _ hb).at hx;have HSU:=hide (huK_succ hx);have x0:=hc 0 _ rfl;have x1:=hc 1 _ rfl;have x2:=hc 2 _ rfl;have x3:=hc 3 _ rfl;have x4:=hc 4 _ rfl;have x5:=hc 5 _ rfl;rw [Nat.add_zero] at x0
    obtain ⟨⟨d0,d1,d2,d3,d4,d5⟩,hk⟩ : ∃ q,huK l i = q:=⟨_,rfl⟩
    rw [hk] at HV HSU;have HWI:=hide (fun W => with_any ⟨d0,d1,d2,d3,d4,d5⟩ ⟨c0,c1,c2,c3,c4,c5⟩ W)
    obtain ⟨⟨e0,e1,e2,e3,e4,e5⟩,he⟩ : ∃ q,arn ⟨d0,d1,d2,d3,d4,d5⟩ ⟨c0,c1,c2,c3,c4,c5⟩ = q:=⟨_,rfl⟩
    rw [he] at HWI HSU;have HVA:=hide ((zu HV).bel (ba (bfl wr.heap.size wr) (.cells (bxc ⟨c0,c1,c2,c3,c4,c5⟩).toArray 41)));have v4:=(zu HVA).cell (m:=4) rfl;have v5:=(zu HVA).cell (m:=5) rfl;have v6:=(zu HVA).cell (m:=6) rfl;have v7:=(zu HVA).cell (m:=7) rfl;have v8:=(zu HVA).cell (m:=8) rfl;have v9:=(zu HVA).cell (m:=9) rfl;have hvl:=(zu HV).lt;unfold bxc at v4 v5 v6 v7 v8 v9;simp only at v4 v5 v6 v7 v8 v9;unfold bxv at HWI;have HI:=hide h;clear hx hc he hk;go_wp2_with fail;refine (zu HWI _).mono ?_;rintro e W4 ⟨rfl,hb4⟩
    have hbA:=bc (ba (zu HBi) (.cells (bxc ⟨c0,c1,c2,c3,c4,c5⟩).toArray 41)) hb4;have HB4:=hide hbA;have hv4:=(zu HVA).bel hb4;have HV4:=hide hv4;have HR4:=hide (((zu HR).bel (ba (bfl wr.heap.size wr) (.cells (bxc ⟨c0,c1,c2,c3,c4,c5⟩).toArray 41))).bel hb4);have y4:=hv4.cell (m:=4) rfl;have y5:=hv4.cell (m:=5) rfl;have y6:=hv4.cell (m:=6) rfl;have y7:=hv4.cell (m:=7) rfl;have y8:=hv4.cell (m:=8) rfl;have y9:=hv4.cell (m:=9) rfl;have fz:=hv4.frozen;clear hbA hv4 hb4 x0 x1 x2 x3 x4 x5 v4 v5 v6 v7 v8 v9 hvl;go_wp2_with fail;go_roundw
    case rel =>
     have hn:=zu HN10;refine ⟨i + 1,by simp,zu HI,?_,?_,bel6 (zu HB4) (by omega) _ _ _ _ _ _⟩
     ·rw [← zu HSU]
      exact cell6 (zu HV4) _ _ _ _ _ _
     ·exact (keep6 (by omega) _ _ _ _ _ _).trans (zu HR4)
    case measure => have:=zu HI;simp only [intOf];omega
   ·obtain rfl : i = n:=by omega
    have iz : decide ((i : Int) < (i : Int)) = false:=df (by omega);rw [zu HKN] at HV
    obtain ⟨⟨d0,d1,d2,d3,d4,d5⟩,hk⟩ : ∃ q,hul l = q:=⟨_,rfl⟩
    rw [hk] at HV;have HHQ:=hide hk;have v0:=(zu HV).cell (m:=0) rfl;have v1:=(zu HV).cell (m:=1) rfl;have v2:=(zu HV).cell (m:=2) rfl;have v3:=(zu HV).cell (m:=3) rfl;have v4:=(zu HV).cell (m:=4) rfl;have v5:=(zu HV).cell (m:=5) rfl;have v6:=(zu HV).cell (m:=6) rfl;have v7:=(zu HV).cell (m:=7) rfl;have v8:=(zu HV).cell (m:=8) rfl;have v9:=(zu HV).cell (m:=9) rfl;have r0:=(zu HR).cell (m:=0) rfl;have r1:=(zu HR).cell (m:=1) rfl;have r2:=(zu HR).cell (m:=2) rfl;have r3:=(zu HR).cell (m:=3) rfl;have r4:=(zu HR).cell (m:=4) rfl
    have r5:=(zu HR).cell (m:=5) rfl;have r6:=(zu HR).cell (m:=6) rfl;have r7:=(zu HR).cell (m:=7) rfl;have r8:=(zu HR).cell (m:=8) rfl;have r9:=(zu HR).cell (m:=9) rfl;have rz:=(zu HR).frozen;have HZ:=hide (cell10 (zu HR) (.string nm) (.int .i64 (sd : Int)) (.int .i64 (i : Int)) (.int .i64 (pc : Int)) (.int .i64 d0) (.int .i64 d1) (.int .i64 d2) (.int .i64 d3) (.int .i64 d4) (.int .i64 d5));unfold bxc at v4 v5 v6 v7 v8 v9;simp only at v4 v5 v6 v7 v8 v9;clear hk hb;go_wp2_with fail;have z0:=(zu HZ).cell (m:=0) rfl;have z1:=(zu HZ).cell (m:=1) rfl
    have z2:=(zu HZ).cell (m:=2) rfl;have z3:=(zu HZ).cell (m:=3) rfl;have z4:=(zu HZ).cell (m:=4) rfl;have z5:=(zu HZ).cell (m:=5) rfl;have z6:=(zu HZ).cell (m:=6) rfl;have z7:=(zu HZ).cell (m:=7) rfl;have z8:=(zu HZ).cell (m:=8) rfl;have z9:=(zu HZ).cell (m:=9) rfl;refine bodyPost_ret (v:=fcN nm sd (i : Int) (pc : Int) ⟨d0,d1,d2,d3,d4,d5⟩) (by simp [results,Tryz.results89,go_sem,fcN,z0,z1,z2,z3,z4,z5,z6,z7,z8,z9];done) rfl ?_;refine ⟨by rw [zu HHQ],bel10 (zu HBi) (Nat.le_refl _) _ _ _ _ _ _ _ _ _ _⟩
end Go.Proofs.YtkiplmabjeadgaaGreat
