/- Rows of rows, half made, whose blocks all lie above a bound. -/
import Derived.Test.YtkiplmabjeadgaaGreatCkMR
import Derived.Test.YtkiplmabjeadgaaGreatMpFR
import Derived.Test.YtkiplmabjeadgaaGreatBdD35R
namespace Go.Proofs.YtkiplmabjeadgaaGreat
set_option maxRecDepth 100000
set_option maxHeartbeats 16000000
open Go.ChangeShapes Go.WideShapes Go.ChangeAt Go.RowKit
set_option linter.unusedVariables false
set_option linter.unusedSimpArgs false
theorem bx_conv (x0 y0 z0 x1 y1 z1 : Int) (w : World) : Calls Tryz.prog 82 #[.agg #[.int .i64 x0,.int .i64 y0,.int .i64 z0,.int .i64 x1,.int .i64 y1,.int .i64 z1]] w fun e w' => e = .returned (.agg #[.int .i64 x0,.int .i64 y0,.int .i64 z0,.int .i64 x1,.int .i64 y1,.int .i64 z1]) ∧ Below w.heap.size w w':=by
 go_enter Tryz.func82,Tryz.ntmps82;go_wp2;exact bodyPost_ret (v:=.agg #[.int .i64 x0,.int .i64 y0,.int .i64 z0,.int .i64 x1,.int .i64 y1,.int .i64 z1]) (by simp [results,Tryz.results82,go_sem]) rfl ⟨rfl,by repeat (first | exact bfl _ _ | refine ba ?_ _)⟩
theorem ft_conv (s o v : ByteArray) (k d x0 y0 z0 x1 y1 z1 ct dx dy dz : Int) (w : World) : Calls Tryz.prog 46 #[.agg #[.string s,.string o,.string v,.int .i64 k,.int .i64 d,.int .i64 x0,.int .i64 y0,.int .i64 z0,.int .i64 x1,.int .i64 y1,.int .i64 z1,.int .i64 ct,.int .i64 dx,.int .i64 dy,.int .i64 dz]] w fun e w' => e = .returned (.agg #[.string s,.string o,.string v,.int .i64 k,.int .i64 d,.int .i64 x0,.int .i64 y0,.int .i64 z0,.int .i64 x1,.int .i64 y1,.int .i64 z1,.int .i64 ct,.int .i64 dx,.int .i64 dy,.int .i64 dz]) ∧ Below w.heap.size w w':=by
 have HB:=hide (fun W => bx_conv x0 y0 z0 x1 y1 z1 W);have V0:=hide (((vb_new w 69 (ftc ⟨s,o,v,k,d,x0,y0,z0,x1,y1,z1,ct,dx,dy,dz⟩) _ rfl).bel (ba (bfl _ _) (.cells (ftc ft0).toArray 75))).bel (ba (bfl _ _) (.cells (ftc ⟨s,o,v,k,d,0,0,0,0,0,0,0,0,0,0⟩).toArray 75)));have V1:=hide ((vb_new (w.alloc (.cells (ftc ⟨s,o,v,k,d,x0,y0,z0,x1,y1,z1,ct,dx,dy,dz⟩).toArray 69)) 75 (ftc ft0) _ rfl).bel (ba (bfl _ _) (.cells (ftc ⟨s,o,v,k,d,0,0,0,0,0,0,0,0,0,0⟩).toArray 75)))
 have V2:=hide (vb_new ((w.alloc (.cells (ftc ⟨s,o,v,k,d,x0,y0,z0,x1,y1,z1,ct,dx,dy,dz⟩).toArray 69)).alloc (.cells (ftc ft0).toArray 75)) 75 (ftc ⟨s,o,v,k,d,0,0,0,0,0,0,0,0,0,0⟩) _ rfl);have HB0:=hide (ba (ba (ba (bfl w.heap.size w) (.cells (ftc ⟨s,o,v,k,d,x0,y0,z0,x1,y1,z1,ct,dx,dy,dz⟩).toArray 69)) (.cells (ftc ft0).toArray 75)) (.cells (ftc ⟨s,o,v,k,d,0,0,0,0,0,0,0,0,0,0⟩).toArray 75));simp only [World.size_alloc] at V1 V2;go_enter Tryz.func46,Tryz.ntmps46;go_wp2_with fail;refine (zu HB _).mono ?_;rintro e W1 ⟨rfl,hb⟩
 have a11:=((zu V0).bel hb).cell (m:=11) rfl;have a12:=((zu V0).bel hb).cell (m:=12) rfl;have a13:=((zu V0).bel hb).cell (m:=13) rfl;have a14:=((zu V0).bel hb).cell (m:=14) rfl;have e0:=((zu V2).bel hb).cell (m:=0) rfl;have e1:=((zu V2).bel hb).cell (m:=1) rfl;have e2:=((zu V2).bel hb).cell (m:=2) rfl;have e3:=((zu V2).bel hb).cell (m:=3) rfl;have e4:=((zu V2).bel hb).cell (m:=4) rfl;have e5:=((zu V2).bel hb).cell (m:=5) rfl;have e6:=((zu V2).bel hb).cell (m:=6) rfl;have e7:=((zu V2).bel hb).cell (m:=7) rfl
 have e8:=((zu V2).bel hb).cell (m:=8) rfl;have e9:=((zu V2).bel hb).cell (m:=9) rfl;have e10:=((zu V2).bel hb).cell (m:=10) rfl;have e11:=((zu V2).bel hb).cell (m:=11) rfl;have e12:=((zu V2).bel hb).cell (m:=12) rfl;have e13:=((zu V2).bel hb).cell (m:=13) rfl;have e14:=((zu V2).bel hb).cell (m:=14) rfl;have r0:=((zu V1).bel hb).cell (m:=0) rfl;have r1:=((zu V1).bel hb).cell (m:=1) rfl;have r2:=((zu V1).bel hb).cell (m:=2) rfl;have r3:=((zu V1).bel hb).cell (m:=3) rfl;have r4:=((zu V1).bel hb).cell (m:=4) rfl
 have r5:=((zu V1).bel hb).cell (m:=5) rfl;have r6:=((zu V1).bel hb).cell (m:=6) rfl;have r7:=((zu V1).bel hb).cell (m:=7) rfl;have r8:=((zu V1).bel hb).cell (m:=8) rfl;have r9:=((zu V1).bel hb).cell (m:=9) rfl;have r10:=((zu V1).bel hb).cell (m:=10) rfl;have r11:=((zu V1).bel hb).cell (m:=11) rfl;have r12:=((zu V1).bel hb).cell (m:=12) rfl;have r13:=((zu V1).bel hb).cell (m:=13) rfl;have r14:=((zu V1).bel hb).cell (m:=14) rfl
 simp only [ft0] at a11 a12 a13 a14 e0 e1 e2 e3 e4 e5 e6 e7 e8 e9 e10 e11 e12 e13 e14 r0 r1 r2 r3 r4 r5 r6 r7 r8 r9 r10 r11 r12 r13 r14;have fz2 : ∀ q,W1.frozen? ⟨w.heap.size + 1 + 1,q,none⟩ = false:=((zu V2).bel hb).frozen;have fz1 : ∀ q,W1.frozen? ⟨w.heap.size + 1,q,none⟩ = false:=((zu V1).bel hb).frozen;have HB1:=hide (bc (zu HB0) hb);have U1:=hide ((zu V1).bel hb);clear hb;go_wp2_with fail
 have h0:=(vb.ne (g':=w.heap.size + 1 + 1) (o:=14) (x:=.int .i64 dz) (vb.ne (g':=w.heap.size + 1 + 1) (o:=13) (x:=.int .i64 dy) (vb.ne (g':=w.heap.size + 1 + 1) (o:=12) (x:=.int .i64 dx) (vb.ne (g':=w.heap.size + 1 + 1) (o:=11) (x:=.int .i64 ct) (vb.ne (g':=w.heap.size + 1 + 1) (o:=10) (x:=.int .i64 z1) (vb.ne (g':=w.heap.size + 1 + 1) (o:=9) (x:=.int .i64 y1) (vb.ne (g':=w.heap.size + 1 + 1) (o:=8) (x:=.int .i64 x1) (vb.ne (g':=w.heap.size + 1 + 1) (o:=7) (x:=.int .i64 z0) (vb.ne (g':=w.heap.size + 1 + 1) (o:=6) (x:=.int .i64 y0) (vb.ne (g':=w.heap.size + 1 + 1) (o:=5) (x:=.int .i64 x0) (zu U1) (by omega)) (by omega)) (by omega)) (by omega)) (by omega)) (by omega)) (by omega)) (by omega)) (by omega)) (by omega))
 have h15:=(((((((((((((((h0.set 0 (.string s)).set 1 (.string o)).set 2 (.string v)).set 3 (.int .i64 k)).set 4 (.int .i64 d)).set 5 (.int .i64 x0)).set 6 (.int .i64 y0)).set 7 (.int .i64 z0)).set 8 (.int .i64 x1)).set 9 (.int .i64 y1)).set 10 (.int .i64 z1)).set 11 (.int .i64 ct)).set 12 (.int .i64 dx)).set 13 (.int .i64 dy)).set 14 (.int .i64 dz))
 simp only [ftc,ft0,List.set_cons_zero,List.set_cons_succ] at h15;have z0':=h15.cell (m:=0) rfl;have z1':=h15.cell (m:=1) rfl;have z2':=h15.cell (m:=2) rfl;have z3':=h15.cell (m:=3) rfl;have z4':=h15.cell (m:=4) rfl;have z5':=h15.cell (m:=5) rfl;have z6':=h15.cell (m:=6) rfl;have z7':=h15.cell (m:=7) rfl;have z8':=h15.cell (m:=8) rfl;have z9':=h15.cell (m:=9) rfl;have z10':=h15.cell (m:=10) rfl;have z11':=h15.cell (m:=11) rfl;have z12':=h15.cell (m:=12) rfl;have z13':=h15.cell (m:=13) rfl;have z14':=h15.cell (m:=14) rfl
 have hA : w.heap.size ≤ w.heap.size + 1 + 1:=by omega
 have hR : w.heap.size ≤ w.heap.size + 1:=by omega
 have q1:=hide (Below.setCell (zu HB1) (p:=⟨w.heap.size + 1 + 1,5,none⟩) hA (.int .i64 x0));have q2:=hide (Below.setCell (zu q1) (p:=⟨w.heap.size + 1 + 1,6,none⟩) hA (.int .i64 y0));have q3:=hide (Below.setCell (zu q2) (p:=⟨w.heap.size + 1 + 1,7,none⟩) hA (.int .i64 z0));have q4:=hide (Below.setCell (zu q3) (p:=⟨w.heap.size + 1 + 1,8,none⟩) hA (.int .i64 x1));have q5:=hide (Below.setCell (zu q4) (p:=⟨w.heap.size + 1 + 1,9,none⟩) hA (.int .i64 y1));have q6:=hide (Below.setCell (zu q5) (p:=⟨w.heap.size + 1 + 1,10,none⟩) hA (.int .i64 z1))
 have q7:=hide (Below.setCell (zu q6) (p:=⟨w.heap.size + 1 + 1,11,none⟩) hA (.int .i64 ct));have q8:=hide (Below.setCell (zu q7) (p:=⟨w.heap.size + 1 + 1,12,none⟩) hA (.int .i64 dx));have q9:=hide (Below.setCell (zu q8) (p:=⟨w.heap.size + 1 + 1,13,none⟩) hA (.int .i64 dy));have q10:=hide (Below.setCell (zu q9) (p:=⟨w.heap.size + 1 + 1,14,none⟩) hA (.int .i64 dz));have q11:=hide (Below.setCell (zu q10) (p:=⟨w.heap.size + 1,0,none⟩) hR (.string s));have q12:=hide (Below.setCell (zu q11) (p:=⟨w.heap.size + 1,1,none⟩) hR (.string o))
 have q13:=hide (Below.setCell (zu q12) (p:=⟨w.heap.size + 1,2,none⟩) hR (.string v));have q14:=hide (Below.setCell (zu q13) (p:=⟨w.heap.size + 1,3,none⟩) hR (.int .i64 k));have q15:=hide (Below.setCell (zu q14) (p:=⟨w.heap.size + 1,4,none⟩) hR (.int .i64 d));have q16:=hide (Below.setCell (zu q15) (p:=⟨w.heap.size + 1,5,none⟩) hR (.int .i64 x0));have q17:=hide (Below.setCell (zu q16) (p:=⟨w.heap.size + 1,6,none⟩) hR (.int .i64 y0));have q18:=hide (Below.setCell (zu q17) (p:=⟨w.heap.size + 1,7,none⟩) hR (.int .i64 z0))
 have q19:=hide (Below.setCell (zu q18) (p:=⟨w.heap.size + 1,8,none⟩) hR (.int .i64 x1));have q20:=hide (Below.setCell (zu q19) (p:=⟨w.heap.size + 1,9,none⟩) hR (.int .i64 y1));have q21:=hide (Below.setCell (zu q20) (p:=⟨w.heap.size + 1,10,none⟩) hR (.int .i64 z1));have q22:=hide (Below.setCell (zu q21) (p:=⟨w.heap.size + 1,11,none⟩) hR (.int .i64 ct));have q23:=hide (Below.setCell (zu q22) (p:=⟨w.heap.size + 1,12,none⟩) hR (.int .i64 dx));have q24:=hide (Below.setCell (zu q23) (p:=⟨w.heap.size + 1,13,none⟩) hR (.int .i64 dy))
 have q25:=hide (Below.setCell (zu q24) (p:=⟨w.heap.size + 1,14,none⟩) hR (.int .i64 dz));exact bodyPost_ret (v:=.agg #[.string s,.string o,.string v,.int .i64 k,.int .i64 d,.int .i64 x0,.int .i64 y0,.int .i64 z0,.int .i64 x1,.int .i64 y1,.int .i64 z1,.int .i64 ct,.int .i64 dx,.int .i64 dy,.int .i64 dz]) (by simp [results,Tryz.results46,go_sem,z0',z1',z2',z3',z4',z5',z6',z7',z8',z9',z10',z11',z12',z13',z14'];done) rfl ⟨rfl,(zu q25)⟩
def fillF (fs : List Ft) (i : Nat) : List Ft:=fs.take i ++ List.replicate (fs.length - i) ft0
theorem fillF_len (fs : List Ft) (i : Nat) (h : i ≤ fs.length) : (fillF fs i).length = fs.length:=by simp [fillF];omega
theorem fillF_at (fs : List Ft) (i : Nat) (h : i < fs.length) : (fillF fs i)[i]? = some ft0:=by
 unfold fillF;rw [List.getElem?_append_right (by simp;omega),List.getElem?_replicate];simp;omega
theorem fillF_step (fs : List Ft) (i : Nat) (f : Ft) (h : fs[i]? = some f) : (fillF fs i).set i f = fillF fs (i + 1):=by
 have hi : i < fs.length:=(List.getElem?_eq_some_iff.1 h).1;unfold fillF;have hl : (fs.take i).length = i:=by simp;omega
 rw [List.set_append,if_neg (by omega),hl,Nat.sub_self,List.take_add_one,h];have e : fs.length - i = (fs.length - (i + 1)) + 1:=by omega
 rw [e,List.replicate_succ];simp
theorem fillF_zero (fs : List Ft) : fillF fs 0 = List.replicate fs.length ft0:=by simp [fillF]
theorem fillF_all (fs : List Ft) : fillF fs fs.length = fs:=by simp [fillF]
theorem made_ft (m : Nat) : madeCells (ftv ft0).cells (m * 15) = (flatG ftc (List.replicate m ft0)).toArray:=by
 apply Array.ext
 ·simp [madeCells,flatG_len ftc_len]
 ·intro i h1 h2
  have hi : i < m * 15:=by simpa [madeCells] using h1
  have hd : i / 15 < m:=by omega
  have hr : (List.replicate m ft0)[i / 15]? = some ft0:=by simp [List.getElem?_replicate,hd]
  have hlt : i % 15 < (ftc ft0).length:=by rw [ftc_len];omega
  have hf:=flatG_at ftc_len hr (j:=i % 15) (v:=(ftc ft0)[i % 15]) (List.getElem?_eq_getElem hlt);rw [show i / 15 * 15 + i % 15 = i by omega] at hf;have hc : (ftv ft0).cells = (ftc ft0).toArray:=rfl;have hx : (flatG ftc (List.replicate m ft0))[i]? = some (flatG ftc (List.replicate m ft0))[i]:=List.getElem?_eq_getElem _;simp only [madeCells,Array.getElem_map,Array.getElem_range,hc,List.getElem_toArray]
  show ((ftc ft0).toArray)[i % 15]! = _
  rw [hx] at hf;have:=Option.some.inj hf;rw [this,getElem!_pos (ftc ft0).toArray (i % 15) (by simpa using hlt)];simp
theorem ft_info : (Tryz.prog.info? 75).map (fun i => (i.zero,i.size,i.bytes)) = some (some (ftv ft0),15,144):=by kernel_rfl
theorem make_ft (n : Nat) (hn : n ≤ 1048576) (W : World) :
  (Instr.makeSlice 31 (.int .i64 (n : Int)) (.int .i64 (n : Int))).run Tryz.prog W = .ok (.slice (some ⟨W.heap.size,0,none⟩) n n) (W.alloc (.cells (flatG ftc (List.replicate n ft0)).toArray 75)):=by
 obtain ⟨i,hx,h0,h1,h2⟩:=info_parts ft_info;have:=run_make (P:=Tryz.prog) W 31 75 i (ftv ft0) Tryz.underlying31 hx h0 .i64 .i64 n n (by omega) (by omega) (by rw [h2];omega) (by omega);rw [Int.toNat_natCast,h1,made_ft] at this;exact this
theorem ft_to (u : Option Addr) (p po n cu : Nat) (fs : List Ft) (w : World) (hl : fs.length = n) (hn : n ≤ 1048576) (hu : SlG ftc 15 w u p po fs) :
  Calls Tryz.prog 12 #[.slice u n cu] w fun e w' => (∃ g,e = .returned (.slice (some ⟨g,0,none⟩) n n) ∧ w.heap.size ≤ g ∧ vb w' g 75 (flatG ftc fs)) ∧ Below w.heap.size w w':=by
 have HU:=hide hu;have HL:=hide hl;clear hu hl;have hmk:=fun W => make_ft n hn W
 generalize hzz : flatG ftc (List.replicate n ft0) = Z at hmk;have HZ:=hide hzz;clear hzz;go_enter Tryz.func12,Tryz.ntmps12;go_wp2_with fail;have HG:=hide (vb_new w 75 Z _ rfl);have HB0:=hide (ba (bfl w.heap.size w) (.cells Z.toArray 75));clear hmk
 go_loopw [4] (fun s W => ∃ i : Nat,s = .int .i64 (i : Int) ∧ i ≤ n ∧ vb W w.heap.size 75 (flatG ftc (fillF fs i)) ∧ Below w.heap.size w W) (fun s _ => n - (intOf s).toNat)
 case atStart =>
  refine ⟨0,rfl,Nat.zero_le _,?_,zu HB0⟩;rw [fillF_zero,zu HL,zu HZ];exact zu HG
 case round =>
  obtain ⟨i,rfl,hi,hb,hw⟩:=hrel;have HB:=hide hb;have HW:=hide hw;clear hb hw HG HB0
  by_cases h : i < n
  ·have i1 : (i : Int) < (n : Int):=by omega
   have i0 : (0 : Int) ≤ (i : Int):=Int.natCast_nonneg _;have iz : decide ((i : Int) < (n : Int)) = true:=dt i1;obtain ⟨⟨s,o,v,k,d,x0,y0,z0,x1,y1,z1,ct,dx,dy,dz⟩,hx⟩:=get_some (zu HL) h;obtain ⟨rfl,k0,k1,k2,k3,k4,k5,k6,k7,k8,k9,k10,k11,k12,k13,k14⟩:=((zu HU).bel (zu HW)).at15 hx;simp only at k0 k1 k2 k3 k4 k5 k6 k7 k8 k9 k10 k11 k12 k13 k14;have HX:=hide hx;clear hx;go_wp2_with fail;refine (ft_conv _ _ _ _ _ _ _ _ _ _ _ _ _ _ _ _).mono ?_;rintro e W1 ⟨rfl,hb⟩;have pb:=(zu HB).bel hb
   have m0:=pb.cell (flatG_at ftc_len (fillF_at fs i (by rw [zu HL];exact h)) (j:=0) rfl);have m1:=pb.cell (flatG_at ftc_len (fillF_at fs i (by rw [zu HL];exact h)) (j:=1) rfl);have m2:=pb.cell (flatG_at ftc_len (fillF_at fs i (by rw [zu HL];exact h)) (j:=2) rfl);have m3:=pb.cell (flatG_at ftc_len (fillF_at fs i (by rw [zu HL];exact h)) (j:=3) rfl);have m4:=pb.cell (flatG_at ftc_len (fillF_at fs i (by rw [zu HL];exact h)) (j:=4) rfl);have m5:=pb.cell (flatG_at ftc_len (fillF_at fs i (by rw [zu HL];exact h)) (j:=5) rfl)
   have m6:=pb.cell (flatG_at ftc_len (fillF_at fs i (by rw [zu HL];exact h)) (j:=6) rfl);have m7:=pb.cell (flatG_at ftc_len (fillF_at fs i (by rw [zu HL];exact h)) (j:=7) rfl);have m8:=pb.cell (flatG_at ftc_len (fillF_at fs i (by rw [zu HL];exact h)) (j:=8) rfl);have m9:=pb.cell (flatG_at ftc_len (fillF_at fs i (by rw [zu HL];exact h)) (j:=9) rfl);have m10:=pb.cell (flatG_at ftc_len (fillF_at fs i (by rw [zu HL];exact h)) (j:=10) rfl);have m11:=pb.cell (flatG_at ftc_len (fillF_at fs i (by rw [zu HL];exact h)) (j:=11) rfl)
   have m12:=pb.cell (flatG_at ftc_len (fillF_at fs i (by rw [zu HL];exact h)) (j:=12) rfl);have m13:=pb.cell (flatG_at ftc_len (fillF_at fs i (by rw [zu HL];exact h)) (j:=13) rfl);have m14:=pb.cell (flatG_at ftc_len (fillF_at fs i (by rw [zu HL];exact h)) (j:=14) rfl);simp only [ft0,Nat.add_zero] at m0 m1 m2 m3 m4 m5 m6 m7 m8 m9 m10 m11 m12 m13 m14;have fz : ∀ q,W1.frozen? ⟨w.heap.size,q,none⟩ = false:=pb.frozen;have PB:=hide pb;have HW1:=hide (bc (zu HW) hb);clear hb pb k0 k1 k2 k3 k4 k5 k6 k7 k8 k9 k10 k11 k12 k13 k14;go_wp2_with fail;go_roundw
   case rel =>
    refine ⟨i + 1,by simp,h,?_,?_⟩
    ·rw [← fillF_step fs i _ (zu HX),flatG_set ftc_len _ _ _ (by rw [fillF_len _ _ (by rw [zu HL];omega),zu HL];exact h)]
     exact ((((((((((((((((zu PB).set (i * 15) (.string s)).set (i * 15 + 1) (.string o)).set (i * 15 + 2) (.string v)).set (i * 15 + 3) (.int .i64 k)).set (i * 15 + 4) (.int .i64 d)).set (i * 15 + 5) (.int .i64 x0)).set (i * 15 + 6) (.int .i64 y0)).set (i * 15 + 7) (.int .i64 z0)).set (i * 15 + 8) (.int .i64 x1)).set (i * 15 + 9) (.int .i64 y1)).set (i * 15 + 10) (.int .i64 z1)).set (i * 15 + 11) (.int .i64 ct)).set (i * 15 + 12) (.int .i64 dx)).set (i * 15 + 13) (.int .i64 dy)).set (i * 15 + 14) (.int .i64 dz))
    ·exact (Below.setCell (Below.setCell (Below.setCell (Below.setCell (Below.setCell (Below.setCell (Below.setCell (Below.setCell (Below.setCell (Below.setCell (Below.setCell (Below.setCell (Below.setCell (Below.setCell (Below.setCell (zu HW1) (Nat.le_refl _) _) (Nat.le_refl _) _) (Nat.le_refl _) _) (Nat.le_refl _) _) (Nat.le_refl _) _) (Nat.le_refl _) _) (Nat.le_refl _) _) (Nat.le_refl _) _) (Nat.le_refl _) _) (Nat.le_refl _) _) (Nat.le_refl _) _) (Nat.le_refl _) _) (Nat.le_refl _) _) (Nat.le_refl _) _) (Nat.le_refl _) _)
   case measure => simp only [intOf];omega
  ·have i1 : ¬ (i : Int) < (n : Int):=by omega
   have iz : decide ((i : Int) < (n : Int)) = false:=df i1;have en : i = n:=by omega
   subst en;go_wp2_with fail;go_ret;refine ⟨⟨_,rfl,Nat.le_refl _,?_⟩,zu HW⟩;have h1:=zu HB;rw [← zu HL,fillF_all] at h1;exact h1
theorem ft_sz1 (s o v : ByteArray) (k d x0 y0 z0 x1 y1 z1 ct dx dy dz : Int) (q : Int) (w : World) (hs : s.size ≤ maxLen) (ho : o.size ≤ maxLen) (hv : v.size ≤ maxLen) (q0 : 0 ≤ q) (q1 : q ≤ 1048576) :
  Calls Tryz.prog 43 #[.agg #[.string s,.string o,.string v,.int .i64 k,.int .i64 d,.int .i64 x0,.int .i64 y0,.int .i64 z0,.int .i64 x1,.int .i64 y1,.int .i64 z1,.int .i64 ct,.int .i64 dx,.int .i64 dy,.int .i64 dz],.int .i64 q] w fun e w' => (∃ r : Int,e = .returned (.int .i64 r) ∧ (0 ≤ r → r ≤ q ∧ (s.size : Int) ≤ q ∧ (o.size : Int) ≤ q ∧ (v.size : Int) ≤ q) ∧ -1 ≤ r) ∧ Below w.heap.size w w':=by
 unfold maxLen at hs ho hv;have n0 : (0 : Int) ≤ (s.size : Int):=Int.natCast_nonneg _;have n1 : (0 : Int) ≤ (o.size : Int):=Int.natCast_nonneg _;have n2 : (0 : Int) ≤ (v.size : Int):=Int.natCast_nonneg _
 by_cases h : q - (s.size : Int) < 0
 ·have t : decide (q - (s.size : Int) < 0) = true:=dt h
  go_enter Tryz.func43,Tryz.ntmps43;go_wp2;go_ret;exact ⟨⟨-1,rfl,fun h => by omega,by omega⟩,ba (bfl _ _) _⟩
 have t : decide (q - (s.size : Int) < 0) = false:=df h
 by_cases h2 : q - (s.size : Int) - (o.size : Int) < 0
 ·have t2 : decide (q - (s.size : Int) - (o.size : Int) < 0) = true:=dt h2
  go_enter Tryz.func43,Tryz.ntmps43;go_wp2;go_ret;exact ⟨⟨-1,rfl,fun h => by omega,by omega⟩,ba (bfl _ _) _⟩
 have t2 : decide (q - (s.size : Int) - (o.size : Int) < 0) = false:=df h2
 by_cases h3 : q - (s.size : Int) - (o.size : Int) - (v.size : Int) < 0
 ·have t3 : decide (q - (s.size : Int) - (o.size : Int) - (v.size : Int) < 0) = true:=dt h3
  go_enter Tryz.func43,Tryz.ntmps43;go_wp2;go_ret;exact ⟨⟨-1,rfl,fun h => by omega,by omega⟩,ba (bfl _ _) _⟩
 have t3 : decide (q - (s.size : Int) - (o.size : Int) - (v.size : Int) < 0) = false:=df h3;go_enter Tryz.func43,Tryz.ntmps43;go_wp2;go_ret;exact ⟨⟨_,rfl,fun h => by omega,by omega⟩,ba (bfl _ _) _⟩
theorem ft_sz (u : Option Addr) (p po n cu : Nat) (fs : List Ft) (w : World) (hl : fs.length = n) (hn : n ≤ 9223372036854775807) (hsz : ∀ f ∈ fs,f.nm.size ≤ maxLen ∧ f.on.size ≤ maxLen ∧ f.ov.size ≤ maxLen) (hu : SlG ftc 15 w u p po fs) :
  Calls Tryz.prog 9 #[.slice u n cu,.int .i64 1048576] w fun e w' => (∃ r : Int,e = .returned (.int .i64 r) ∧ (0 ≤ r → n ≤ 1048576 ∧ r ≤ 1048576)) ∧ Below w.heap.size w w':=by
 have HU:=hide hu;have HL:=hide hl;have HS:=hide hsz;clear hu hl hsz;have n0 : (0 : Int) ≤ (n : Int):=Int.natCast_nonneg _
 by_cases hb : n ≤ 1048576
 ·have t : decide ((1048576 : Int) - (n : Int) < 0) = false:=df (by omega)
  go_enter Tryz.func9,Tryz.ntmps9;go_wp2
  go_loopw [1,5] (fun q s W => ∃ (i : Nat) (r : Int),q = .int .i64 r ∧ 0 ≤ r ∧ r ≤ 1048576 ∧ s = .int .i64 (i : Int) ∧ i ≤ n ∧ Below w.heap.size w W) (fun _ s _ => n - (intOf s).toNat)
  case atStart => exact ⟨0,_,rfl,by omega,by omega,rfl,Nat.zero_le _,bfl _ _⟩
  case round =>
   obtain ⟨i,r,rfl,hr0,hr1,rfl,hi,hw⟩:=hrel;have HW:=hide hw;clear hw
   by_cases h : i < n
   ·have i1 : (i : Int) < (n : Int):=by omega
    have i0 : (0 : Int) ≤ (i : Int):=Int.natCast_nonneg _;have iz : decide ((i : Int) < (n : Int)) = true:=dt i1;obtain ⟨f,hx⟩:=get_some (zu HL) h;obtain ⟨rfl,k0,k1,k2,k3,k4,k5,k6,k7,k8,k9,k10,k11,k12,k13,k14⟩:=((zu HU).bel (zu HW)).at15 hx;obtain ⟨a1,a2,a3⟩:=zu HS f (List.mem_of_getElem? hx);have HZ:=hide (fun W => ft_sz1 f.nm f.on f.ov f.kd f.sd f.x0 f.y0 f.z0 f.x1 f.y1 f.z1 f.ct f.dx f.dy f.dz r W a1 a2 a3 hr0 hr1);clear hx a1 a2 a3;go_wp2_with fail;refine (zu HZ _).mono ?_;rintro e W1 ⟨⟨r1,rfl,hr2,hr3⟩,hb1⟩;have HW1:=hide (bc (zu HW) hb1)
    clear hb1 k0 k1 k2 k3 k4 k5 k6 k7 k8 k9 k10 k11 k12 k13 k14
    by_cases hz : r1 < 0
    ·have hzd : decide (r1 < 0) = true:=dt hz
     have HR2:=hide hr2;clear hr2;go_wp2_with fail;go_ret;exact ⟨⟨-1,rfl,fun h => by omega⟩,zu HW1⟩
    ·have hzd : decide (r1 < 0) = false:=df hz
     have q1:=(hr2 (by omega)).1;clear hr2;go_wp2_with fail;go_roundw
     case rel => exact ⟨i + 1,r1,rfl,by omega,by omega,by simp,h,zu HW1⟩
     case measure => simp only [intOf];omega
   ·have i1 : ¬ (i : Int) < (n : Int):=by omega
    have iz : decide ((i : Int) < (n : Int)) = false:=df i1;go_wp2_with fail;go_ret;exact ⟨⟨_,rfl,fun _ => by first | exact ⟨hb,by omega⟩ | omega⟩,zu HW⟩
 ·have t : decide ((1048576 : Int) - (n : Int) < 0) = true:=dt (by omega)
  go_enter Tryz.func9,Tryz.ntmps9;go_wp2;go_ret;exact ⟨⟨-1,rfl,fun h => by omega⟩,bfl _ _⟩
open Go.ChangeShapes Go.WideShapes Go.ChangeAt Go.RowKit Go.Maps Go.WideMaps
def lstep (nm : List (List Nat)) (G : List Nat) (k : Nat) : List Nat:=if G.contains k || (nm.getD k []).any (fun p => G.contains p) then G ++ [k] else G
def lft (nm : List (List Nat)) (S P : List Nat) : List Nat:=P.foldl (lstep nm) S
theorem lft_snoc (nm : List (List Nat)) (S P : List Nat) (k : Nat) : lft nm S (P ++ [k]) = lstep nm (lft nm S P) k:=by simp [lft,List.foldl_append]
theorem bl_ext {n : Nat} {o o' : List Nat} (h : ∀ i,i < n → o.contains i = o'.contains i) : bl n o = bl n o':=by
 apply List.ext_getElem?;intro j
 by_cases hj : j < n
 ·rw [bl_at hj,bl_at hj,h j hj]
 ·rw [List.getElem?_eq_none (by rw [bl_len];omega),List.getElem?_eq_none (by rw [bl_len];omega)]
theorem bl_same {n : Nat} {o : List Nat} {i : Nat} (h : i < n) : (bl n o).set i (.bool (o.contains i)) = bl n o:=by
 apply List.ext_getElem?;intro j;rw [List.getElem?_set]
 split
 ·rename_i e
  subst e;rw [if_pos (by rw [bl_len];exact h),bl_at h]
 ·rfl
theorem contains_snoc (o : List Nat) (i j : Nat) : (o ++ [i]).contains j = (o.contains j || (j == i)):=by
 rw [Bool.eq_iff_iff];simp
theorem lstep_has (nm : List (List Nat)) (G : List Nat) (k j : Nat) : (lstep nm G k).contains j = (G.contains j || ((j == k) && (nm.getD k []).any (fun p => G.contains p))):=by
 unfold lstep
 by_cases hk : G.contains k = true
 ·rw [if_pos (by rw [hk];rfl),contains_snoc]
  by_cases e : j = k
  ·subst e;rw [hk];simp
  ·have : (j == k) = false:=by simpa using e
   rw [this];simp
 ·have hk : G.contains k = false:=by simpa using hk
  cases ha : (nm.getD k []).any (fun p => G.contains p)
  ·rw [if_neg (by rw [hk];simp)];simp
  ·rw [if_pos (by rw [hk];rfl),contains_snoc];simp
def mgo (nm : List (List Nat)) (sd : Nat → Bool) (G : List Nat) (k : Nat) : List Nat:=if sd k || (nm.getD k []).any (fun p => G.contains p) then G ++ [k] else G
def mrk (nm : List (List Nat)) (sd : Nat → Bool) (P : List Nat) : List Nat:=P.foldl (mgo nm sd) []
theorem mrk_snoc (nm : List (List Nat)) (sd : Nat → Bool) (P : List Nat) (k : Nat) : mrk nm sd (P ++ [k]) = mgo nm sd (mrk nm sd P) k:=by simp [mrk,List.foldl_append]
theorem marks_one {nm : List (List Nat)} (ho : Oneful nm) (S : List Nat) (sd : Nat → Bool) (hsd : ∀ k,k < nm.length → S.contains k = sd k) (m : Nat) :
  (∀ x ∈ mrk nm sd (wo nm m),x ∈ wo nm m) ∧ (∀ j,j ∈ wo nm m → (lft nm S (wo nm m)).contains j = (mrk nm sd (wo nm m)).contains j) ∧ (∀ j,j ∉ wo nm m → (lft nm S (wo nm m)).contains j = S.contains j) ∧ mrk nm sd (wo nm m) = (wo nm m).filter (fun j => (mrk nm sd (wo nm m)).contains j):=by
 induction m with
 | zero => exact ⟨by simp [wo,mrk],by simp [wo],by simp [wo,lft],by simp [wo,mrk]⟩
 | succ m ih =>
  obtain ⟨i1,i2,i3,i4⟩:=ih
  cases h : ff nm (wo nm m) with
  | none => rw [wo_none h (m + 1) (by omega)];exact ⟨i1,i2,i3,i4⟩
  | some k =>
   obtain ⟨hk,hkn,hkp,_⟩:=ff_some h;rw [wo_some h,mrk_snoc,lft_snoc];generalize hM : mrk nm sd (wo nm m) = M at *;generalize hG : lft nm S (wo nm m) = G at *;generalize wo nm m = P at *
   have hany : (nm.getD k []).any (fun p => G.contains p) = (nm.getD k []).any (fun p => M.contains p):=by
    rw [Bool.eq_iff_iff,List.any_eq_true,List.any_eq_true];constructor
    ·rintro ⟨p,hp,h1⟩;exact ⟨p,hp,by rw [← i2 p (hkp p hp)];exact h1⟩
    ·rintro ⟨p,hp,h1⟩;exact ⟨p,hp,by rw [i2 p (hkp p hp)];exact h1⟩
   have hGk : G.contains k = sd k:=by rw [i3 k hkn,hsd k hk]
   have hMk : M.contains k = false:=by
    cases e : M.contains k with
    | false => rfl
    | true => exact (hkn (i1 k (by simpa using e))).elim
   have hmg : ∀ j,(mgo nm sd M k).contains j = (M.contains j || ((j == k) && (sd k || (nm.getD k []).any fun p => M.contains p))):=by
    intro j;unfold mgo
    cases e : (sd k || (nm.getD k []).any fun p => M.contains p)
    ·rw [if_neg (by simp)];simp
    ·rw [if_pos rfl,contains_snoc];simp
   have hne : ∀ j,j ∈ P → (j == k) = false:=by
    intro j hj;rw [beq_eq_false_iff_ne];intro e;subst e;exact hkn hj
   refine ⟨?_,?_,?_,?_⟩
   ·intro x hx
    unfold mgo at hx
    split at hx
    ·rcases List.mem_append.1 hx with e | e
     ·exact List.mem_append.2 (.inl (i1 x e))
     ·exact List.mem_append.2 (.inr e)
    ·exact List.mem_append.2 (.inl (i1 x hx))
   ·intro j hj
    rw [lstep_has,hmg,hany]
    rcases List.mem_append.1 hj with e | e
    ·rw [hne j e,i2 j e];simp
    ·simp only [List.mem_singleton] at e
     subst e;rw [hGk,hMk];simp
   ·intro j hj
    have h1 : j ∉ P:=fun e => hj (List.mem_append.2 (.inl e))
    have h2 : (j == k) = false:=by
     rw [beq_eq_false_iff_ne];intro e;exact hj (List.mem_append.2 (.inr (by simp [e])))
    rw [lstep_has,h2,i3 j h1];simp
   ·have hf : P.filter (fun j => (mgo nm sd M k).contains j) = M:=by
     conv => rhs;rw [i4]
     apply List.filter_congr;intro j hj;rw [hmg,hne j hj];simp
    rw [List.filter_append,hf];unfold mgo
    cases e : (sd k || (nm.getD k []).any fun p => M.contains p)
    ·have h9:=hmg k
     rw [hMk,e] at h9;unfold mgo at h9;rw [e] at h9;simp only [Bool.false_eq_true,if_false] at h9 ⊢;simp [List.filter_cons]
     simpa using hMk
    ·simp [List.filter_cons,contains_snoc]
theorem MapOf.look1 {w : World} {b k : Nat} {fs : List Ft} (h : MapOf w b fs k) (hk : k ≤ fs.length) (hu : ∀ (j : Nat) (g : Ft),j < k → fs[j]? = some g → findN (fs.take j) g.nm = none) (s : ByteArray) (hs : s.size ≤ maxLen) :
  (Instr.lookup 82 (.map (some b)) (.string s) false).run Tryz.prog w = .ok (.int .i64 (findZ (fs.take k) s)) w:=by
 obtain ⟨v,ps,hrun,hv⟩:=World.ownsMap.lookup (t:=82) (e:=3) h lawK Tryz.underlying82 (zero3 w) (zd:=.lit (.int .i64 0)) (zp:=[]) (plainElem_int Tryz.underlying3 (by decide)) (key:=.string s) (kl:=keyL s) (keyOf_string_mk Tryz.underlying9 hs);obtain ⟨c,rfl,hc,_⟩:=plainElem_int_inv Tryz.underlying3 hv;have hc':=congrArg Prod.fst hc;simp only at hc';rw [Dn_at fs s _ k hk hu] at hc';rw [hrun]
 have : c = findZ (fs.take k) s:=by
  unfold findZ
  cases e : findN (fs.take k) s with
  | none => rw [e] at hc';simp only [DataW.lit.injEq,Lit.int.injEq,true_and] at hc';exact hc'.symm
  | some i => rw [e] at hc';simp only [DataW.lit.injEq,Lit.int.injEq,true_and] at hc';exact hc'.symm
 rw [this]
theorem namesP_any (u u3 u4 ub : Option Addr) (p po n cu bm n3 c3 n4 c4 cb m : Nat) (fs : List Ft) (b : List Nat) (w : World) (hl : fs.length = n) (hu : SlG ftc 15 w u p po fs) (hm : b.length = m) (hbl : m ≤ 4096) (hlt : ∀ x ∈ b,x < n) (hin : b ≠ [] → ∃ g o,ub = some ⟨g,o,none⟩ ∧ g < w.heap.size ∧ IntsAt w g o (nats b)) :
  Calls Tryz.prog 150 #[.agg #[.slice u n cu,.map (some bm),.slice u3 n3 c3,.slice u4 n4 c4],.slice ub m cb] w fun e w' => (∃ v,e = .returned v ∧ SRow w' w.heap.size v (b.map (nmOf fs))) ∧ Below w.heap.size w w':=by
 obtain ⟨iT,ht,hx0,hx1,hx2⟩:=info_parts info9;have HU:=hide hu;have HL:=hide hl;have HT:=hide hlt;have HIN:=hide hin;have HM:=hide hm;have HC0:=hide (vb_new w 135 [.slice u n cu,.map (some bm),.slice u3 n3 c3,.slice u4 n4 c4] _ rfl);have HB0:=hide (ba (bfl w.heap.size w) (.cells #[.slice u n cu,.map (some bm),.slice u3 n3 c3,.slice u4 n4 c4] 135));clear hu hl hlt hin hm;go_enter Tryz.func150,Tryz.ntmps150;go_wp2_with fail
 go_loopw [5,10] (fun v s W => ∃ j : Nat,s = .int .i64 (j : Int) ∧ j ≤ m ∧ W.ownsRow (w.heap.size + 1) 9 1 v j (strs ((b.take j).map (nmOf fs))) ∧ vb W w.heap.size 135 [.slice u n cu,.map (some bm),.slice u3 n3 c3,.slice u4 n4 c4] ∧ w.heap.size + 1 ≤ W.heap.size ∧ Below w.heap.size w W) (fun _ s _ => m - (intOf s).toNat)
 case atStart => exact ⟨0,rfl,Nat.zero_le _,own_nil _ _ _ _,zu HC0,by simp,zu HB0⟩
 case round =>
  obtain ⟨j,rfl,hjb,hown,hvb,hsz,hw⟩:=hrel;rename World => W5
  have HOW:=hide hown;have HVB:=hide hvb;have HW5:=hide hw;have c0:=hvb.cell (m:=0) rfl;obtain ⟨uq,cq,rfl,_⟩:=own_form hown;clear hown hw hvb HC0 HB0
  by_cases h : j < m
  ·have i1 : (j : Int) < (m : Int):=by omega
   have i0 : (0 : Int) ≤ (j : Int):=Int.natCast_nonneg _;have iz : decide ((j : Int) < (m : Int)) = true:=dt i1;have hjl : j < b.length:=by rw [zu HM];exact h
   have hbj : b[j]? = some b[j]:=List.getElem?_eq_getElem hjl;have hbn:=zu HT _ (List.getElem_mem hjl);obtain ⟨gb,ob,rfl,hgb,hib⟩:=zu HIN (by intro e;rw [e] at hjl;simp at hjl);have k1:=(hib.below (zu HW5) hgb) j _ (nats_at hbj);have htk:=strs_take (fs:=fs) hbj;generalize b[j] = y at *;have y1 : (y : Int) < (n : Int):=by omega
   have y0 : (0 : Int) ≤ (y : Int):=Int.natCast_nonneg _;obtain ⟨f,hx⟩:=get_some (zu HL) hbn;rw [show nmOf fs y = f.nm by unfold nmOf;rw [getD_at hx]] at htk;have HTK:=hide htk;obtain ⟨rfl,k0,_⟩:=((zu HU).bel (zu HW5)).at15 hx;clear hx htk hib hbj
   go_wp2_with (at_builtin;refine zu ?_)
   refine hide ?_;refine wpList_append_own _ rfl _ _ 23 rfl (w.heap.size + 1) 9 iT _ 1 16 Tryz.underlying23 ht hx0 hx1 hx2 rfl (by decide) _ j _ rfl ((zu HOW).alloc _) _ 1 1 (strs [f.nm]) rfl rfl (by first | exact news_cells _ _ rfl | exact news_cells _ _ (by simp)) (by intro u hu;simp only [strs,List.map_cons,List.map_nil,List.mem_singleton] at hu;subst hu;rfl) (by unfold maxLen;omega) (by omega) (Nat.le_trans hsz (by simp)) ?_;intro v' w1 hown' hgrow _
   have hbw1 : Below (w.heap.size + 1) W5 w1:=((bfl _ _).alloc hsz (.cells (strs [f.nm]).toArray 9)).grown hgrow (Nat.le_trans hsz (by simp)) (fun g hg => (own_ge (zu HOW) g hg).1)
   have hown2 : w1.ownsRow (w.heap.size + 1) 9 1 v' (j + 1) (strs ((b.take (j + 1)).map (nmOf fs))):=by
    rw [zu HTK];exact hown'
   have HO2:=hide hown2;have HBB:=hide hbw1;clear hown' hgrow hown2 hbw1;go_wp2_with fail;go_roundw
   case rel => exact ⟨j + 1,by simp,h,zu HO2,(zu HVB).below (zu HBB) (by omega),Nat.le_trans hsz (zu HBB).size,(zu HW5).trans ((zu HBB).mono (by omega))⟩
   case measure => simp only [intOf];omega
  ·have i1 : ¬ (j : Int) < (m : Int):=by omega
   have iz : decide ((j : Int) < (m : Int)) = false:=df i1;have hjb' : m = j:=by omega
   subst hjb';have hown:=zu HOW;rw [List.take_of_length_le (by rw [zu HM];omega)] at hown
   have hsr : SRow W5 w.heap.size (.slice uq m cq) (b.map (nmOf fs)):=by
    unfold SRow;rw [List.length_map,zu HM];exact own_mono hown (by omega)
   have HSR:=hide hsr;clear hsr hown c0;go_wp2_with fail;go_ret;exact ⟨⟨_,rfl,zu HSR⟩,zu HW5⟩
def InnB (B : Nat) (ob : Option Nat) (w : World) (v : Value) (l : List Nat) : Prop:=∃ (u : Option Addr) (c : Nat),v = .slice u l.length c ∧ (l ≠ [] → ∃ g o,u = some ⟨g,o,none⟩ ∧ B ≤ g ∧ g < w.heap.size ∧ some g ≠ ob ∧ IntsAt w g o (nats l))
theorem InnB.inn {B : Nat} {ob : Option Nat} {w : World} {v : Value} {l : List Nat} (h : InnB B ob w v l) : Inn w v l:=by
 obtain ⟨u,c,rfl,h1⟩:=h;refine ⟨u,c,rfl,fun h0 => ?_⟩;obtain ⟨g,o,rfl,_,h2,_,h3⟩:=h1 h0;exact ⟨g,o,rfl,h2,h3⟩
theorem InnB.bel {B : Nat} {ob : Option Nat} {w w' : World} {v : Value} {l : List Nat} (h : InnB B ob w v l) (hb : Below w.heap.size w w') : InnB B ob w' v l:=by
 obtain ⟨u,c,rfl,h1⟩:=h;refine ⟨u,c,rfl,fun h0 => ?_⟩;obtain ⟨g,o,rfl,hB,h2,h4,h3⟩:=h1 h0;exact ⟨g,o,rfl,hB,Nat.lt_of_lt_of_le h2 hb.size,h4,h3.below hb h2⟩
theorem InnB.grow {B : Nat} {w w' : World} {v x x' : Value} {l : List Nat} (h : InnB B x.ownBlock w v l) (hg : w.grownBy w' x.ownBlock) (hn : NewBlk w x x') : InnB B x'.ownBlock w' v l:=by
 obtain ⟨u,c,rfl,h1⟩:=h;refine ⟨u,c,rfl,fun h0 => ?_⟩;obtain ⟨g,o,rfl,hB,h2,h4,h3⟩:=h1 h0;refine ⟨g,o,rfl,hB,Nat.lt_of_lt_of_le h2 hg.size,?_,fun j z hj => (World.cell?_of_block (w:=w) (a:=⟨g,o + j,none⟩) (hg.block g h2 h4)).trans (h3 j z hj)⟩;intro e
 rcases hn g e.symm with k | k
 ·exact h4 k.symm
 ·omega
theorem InnB.blk {B : Nat} {ob : Option Nat} {w w' : World} {v : Value} {l : List Nat} (h : InnB B ob w v l) (hsz : w.heap.size ≤ w'.heap.size) (hb : ∀ g,B ≤ g → w'.heap[g]? = w.heap[g]?) : InnB B ob w' v l:=by
 obtain ⟨u,c,rfl,h1⟩:=h;refine ⟨u,c,rfl,fun h0 => ?_⟩;obtain ⟨g,o,rfl,hB,h2,h4,h3⟩:=h1 h0;exact ⟨g,o,rfl,hB,Nat.lt_of_lt_of_le h2 hsz,h4,fun j z hj => (World.cell?_of_block (w:=w) (a:=⟨g,o + j,none⟩) (hb g hB)).trans (h3 j z hj)⟩
def HalfB (w : World) (B : Nat) (v : Value) (nm : List (List Nat)) : Prop:=∃ vs : List Value,w.ownsRow B 94 1 v nm.length vs ∧ ∀ (j : Nat) (l : List Nat),nm[j]? = some l → ∃ x,vs[j]? = some x ∧ InnB B v.ownBlock w x l
theorem HalfB.bel {w w' : World} {B : Nat} {v : Value} {nm : List (List Nat)} (h : HalfB w B v nm) (hb : Below w.heap.size w w') : HalfB w' B v nm:=by
 obtain ⟨vs,h1,h2⟩:=h;refine ⟨vs,own_bel h1 hb,fun j l hj => ?_⟩;obtain ⟨x,hx,hi⟩:=h2 j l hj;exact ⟨x,hx,hi.bel hb⟩
theorem HalfB.blk {w w' : World} {B : Nat} {v : Value} {nm : List (List Nat)} (h : HalfB w B v nm) (hsz : w.heap.size ≤ w'.heap.size) (hb : ∀ g,B ≤ g → w'.heap[g]? = w.heap[g]?) : HalfB w' B v nm:=by
 obtain ⟨vs,h1,h2⟩:=h;refine ⟨vs,own_kept h1 (fun g hg => hb g (own_ge h1 g hg).1),fun j l hj => ?_⟩;obtain ⟨x,hx,hi⟩:=h2 j l hj;exact ⟨x,hx,hi.blk hsz hb⟩
theorem HalfB.set {w : World} {B g o : Nat} {v x : Value} {nm : List (List Nat)} (h : HalfB w B v nm) (hg : g < B) : HalfB (w.setCell ⟨g,o,none⟩ x) B v nm :=
 h.blk (by simp [World.setCell]) (fun k hk => Below.heap_setCell _ _ _ _ (by show k ≠ g;omega))
theorem HalfB.nmS {w : World} {B : Nat} {v : Value} {nm : List (List Nat)} (h : HalfB w B v nm) : NmS w v nm:=by
 obtain ⟨vs,h1,h2⟩:=h;obtain ⟨u,cap,rfl,_,_,h3⟩:=own_form h1;refine ⟨u,cap,rfl,fun h0 => ?_⟩;obtain ⟨g,rfl,_,hg,hc⟩:=h3 (by intro e;exact h0 (List.eq_nil_of_length_eq_zero e));refine ⟨g,0,rfl,hg,fun i l hi => ?_⟩;obtain ⟨x,hx,hI⟩:=h2 i l hi;exact ⟨x,by rw [Nat.zero_add];exact hc i x hx,hI.inn⟩
theorem half_more {W2 w1 : World} {B : Nat} {v v' va : Value} {nm : List (List Nat)} {l : List Nat} {i : Nat} {vs : List Value} (hi : nm.length = i) (h1 : W2.ownsRow B 94 1 v i vs) (h2 : ∀ (j : Nat) (l : List Nat),nm[j]? = some l → ∃ x,vs[j]? = some x ∧ InnB B v.ownBlock W2 x l) (hown' : w1.ownsRow B 94 1 v' (i + 1) (vs ++ [va])) (hal : Below W2.heap.size W2 (W2.alloc (.cells #[va] 94))) (hgrow : (W2.alloc (.cells #[va] 94)).grownBy w1 v.ownBlock) (hnew : NewBlk (W2.alloc (.cells #[va] 94)) v v') (hva : InnB B v.ownBlock W2 va l) : HalfB w1 B v' (nm ++ [l]):=by
 have hvl : vs.length = i:=by have:=h1.1;omega
 refine ⟨vs ++ [va],by rw [List.length_append,hi];exact hown',fun j k hj => ?_⟩
 by_cases hji : j < i
 ·rw [List.getElem?_append_left (by omega)] at hj
  obtain ⟨x,hx,hI⟩:=h2 j k hj;exact ⟨x,by rw [List.getElem?_append_left (by omega)];exact hx,(hI.bel hal).grow hgrow hnew⟩
 ·rw [List.getElem?_append_right (by omega)] at hj
  have hj0 : j - nm.length = 0:=by
   rcases Nat.eq_zero_or_pos (j - nm.length) with e | e
   ·exact e
   ·rw [List.getElem?_eq_none (by simp;omega)] at hj;cases hj
  rw [hj0] at hj
  cases hj
  exact ⟨va,by rw [List.getElem?_append_right (by omega),show j - vs.length = 0 by omega];rfl,(hva.bel hal).grow hgrow hnew⟩
end Go.Proofs.YtkiplmabjeadgaaGreat
