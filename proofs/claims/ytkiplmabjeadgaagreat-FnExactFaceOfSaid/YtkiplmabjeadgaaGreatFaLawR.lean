/- The program's FaceOf answers as the model at every list of features, every list of names to leave out, every name and every number of a side; it changes none of them. -/
import Derived.Test.YtkiplmabjeadgaaGreatFaMoR
import Derived.Test.YtkiplmabjeadgaaGreatRhPR
import Derived.Test.YtkiplmabjeadgaaGreatStOpenR
import Derived.Test.YtkiplmabjeadgaaGreatBdTdR
import Derived.Test.YtkiplmabjeadgaaGreatFtToR
import Derived.Test.YtkiplmabjeadgaaGreatCkMR
import Derived.Test.YtkiplmabjeadgaaGreatChecked
import Derived.Test.YtkiplmabjeadgaaGreatRows
import Derived.ChangeOld
import Derived.Lib.SmallJoins
namespace Go.Proofs.YtkiplmabjeadgaaGreat
set_option maxRecDepth 100000
set_option maxHeartbeats 16000000
open Go.ChangeShapes Go.WideShapes Go.ChangeAt Go.RowKit Go.Joins
set_option linter.unusedVariables false
set_option linter.unusedSimpArgs false
theorem vb.stAtF {w : World} {g : Nat} {l : List ByteArray} (h : vb w g 9 (strs l)) : StAt w (some ⟨g,0,none⟩) l :=
  fun _ => ⟨g,0,rfl,h.lt,fun i s hi => by rw [Nat.zero_add];exact h.cell (strs_at hi)⟩
theorem FaAns.form {fs : List Ft} {off : List ByteArray} {nm : ByteArray} {side c : Int} {v : Value} (h : FaAns fs off nm side c v) : ∃ fn f1 f2 f3 b0 b1 b2 b3 b4 b5,v = .agg #[.string fn,.int .i64 f1,.int .i64 f2,.int .i64 f3,.int .i64 b0,.int .i64 b1,.int .i64 b2,.int .i64 b3,.int .i64 b4,.int .i64 b5]:=by
 unfold FaAns at h
 split at h
 ·exact ⟨_,_,_,_,_,_,_,_,_,_,h.2⟩
 ·obtain ⟨cb,ab,D,_,⟨_,_,h⟩ | ⟨_,D',_,⟨_,_,h⟩ | ⟨_,_,h⟩⟩⟩:=h
  ·exact ⟨_,_,_,_,_,_,_,_,_,_,h⟩
  ·exact ⟨_,_,_,_,_,_,_,_,_,_,h⟩
  ·exact ⟨_,_,_,_,_,_,_,_,_,_,h⟩
theorem fcE_one (fn : ByteArray) (f1 f2 f3 b0 b1 b2 b3 b4 b5 : Int) (w : World) : Calls Tryz.prog 25 #[.agg #[.string fn,.int .i64 f1,.int .i64 f2,.int .i64 f3,.int .i64 b0,.int .i64 b1,.int .i64 b2,.int .i64 b3,.int .i64 b4,.int .i64 b5],.agg #[.string fn,.int .i64 f1,.int .i64 f2,.int .i64 f3,.int .i64 b0,.int .i64 b1,.int .i64 b2,.int .i64 b3,.int .i64 b4,.int .i64 b5]] w fun e w' => e = .returned (.bool true) ∧ Below w.heap.size w w':=by
 have HB:=hide (fun W => bxE_one b0 b1 b2 b3 b4 b5 W);have n0 : (fn.toList != fn.toList) = false:=by simp
 go_enter Tryz.func25,Tryz.ntmps25;go_wp2_with fail;refine (zu HB _).mono ?_;rintro e W2 ⟨rfl,hb2⟩;have hb3 : Below w.heap.size w W2:=bc (ba (ba (bfl _ _) _) _) hb2;clear hb2;go_wp2_with fail;go_ret;exact ⟨rfl,hb3⟩
theorem fnExactFaceOf_walk (u1 : Option Addr) (n1 cap1 p1 po1 : Nat) (B : List Ft) (u3 : Option Addr) (n3 cap3 p3 po3 : Nat) (ns : List ByteArray) (nm : ByteArray) (side : Int) (w : World) (hn1 : n1 ≤ 9223372036854775807) (hl1 : B.length = n1) (hr1 : (∀ f ∈ B,f.nm.size ≤ maxLen ∧ f.on.size ≤ maxLen ∧ f.ov.size ≤ maxLen) ∧ SlG ftc 15 w u1 p1 po1 B)
  (hn3 : n3 ≤ 9223372036854775807) (hl3 : ns.length = n3) (hr3 : (∀ s ∈ ns,s.size ≤ maxLen) ∧ StAt w u3 ns) (hnm : nm.size ≤ maxLen) (hside : (Lit.int .i64 side).wf = true) :
  Calls Tryz.prog 4 #[.slice u1 n1 cap1,.slice u3 n3 cap3,.string nm,.int .i64 side] w fun e w' => e = .returned (.bool true) ∧ Below w.heap.size w w':=by
 obtain ⟨hs1,hu1⟩:=hr1;obtain ⟨hs3,hu3⟩:=hr3;have HSZ1:=hide (ft_sz u1 p1 po1 n1 cap1 B w hl1 hn1 hs1 hu1);have HSZ3:=hide (fun r X (h0 : 0 ≤ r) (h1 : r ≤ 1048576) (hX : Below w.heap.size w X) => st_szq r h0 h1 u3 n3 cap3 ns X hl3 hn3 hs3 (hu3.bel hX));have HT1:=hide (fun (hb : n1 ≤ 1048576) X (hX : Below w.heap.size w X) => ft_to u1 p1 po1 n1 cap1 B X hl1 hb (hu1.bel hX));have HT3:=hide (fun (hb : n3 ≤ 1048576) X (hX : Below w.heap.size w X) => st_to u3 n3 cap3 ns X hl3 hb (hu3.bel hX))
 have HM:=hide (fun (hb1 : n1 ≤ 1048576) (hb3 : n3 ≤ 1048576) g k X (hX : vb X g 75 (flatG ftc B)) (hZ : vb X k 9 (strs ns)) => faceOfM_any (some ⟨g,0,none⟩) g 0 n1 n1 B (some ⟨k,0,none⟩) n3 n3 ns nm side X hl1 hb1 (Nat.le_refl _) hs1 (hX.slG ftc_len) hl3 hb3 hZ.stAtF hnm);have HP:=hide (fun (hb1 : n1 ≤ 1048576) (hb3 : n3 ≤ 1048576) g k X (hX : vb X g 75 (flatG ftc B)) (hZ : vb X k 9 (strs ns)) => faceOfP_any (some ⟨g,0,none⟩) g 0 n1 n1 B (some ⟨k,0,none⟩) n3 n3 ns nm side X hl1 hb1 hs1 (hX.slG ftc_len) hl3 hb3 hs3 hZ.stAtF hnm)
 have HE1:=hide (fun (hb : n1 ≤ 1048576) g g' X (hX : vb X g 75 (flatG ftc B)) (hY : vb X g' 75 (flatG ftc B)) => ft_same (some ⟨g,0,none⟩) (some ⟨g',0,none⟩) g 0 g' 0 n1 n1 n1 B X hl1 hb (hX.slG ftc_len) (hY.slG ftc_len));have HE3:=hide (fun (hb : n3 ≤ 1048576) g g' X (hX : vb X g 9 (strs ns)) (hY : vb X g' 9 (strs ns)) => st_same (some ⟨g,0,none⟩) (some ⟨g',0,none⟩) n3 n3 n3 ns X hl3 hb hX.stAtF hY.stAtF);have HI:=hide size43;clear hu1 hs1 hl1 hu3 hs3 hl3
 by_cases hss : 1048576 < nm.size
 ·have d1 : decide ((1048576 : Int) < (nm.size : Int)) = true:=dt (by omega)
  clear hss hnm hside;go_enter Tryz.func4,Tryz.ntmps4;go_wp2_with fail;go_ret;exact ⟨rfl,bfl _ _⟩
 have d1 : decide ((1048576 : Int) < (nm.size : Int)) = false:=df (by omega);clear hnm hside hss;go_enter Tryz.func4,Tryz.ntmps4;go_wp2_with fail;refine (zu HSZ1).mono ?_;rintro e W0 ⟨⟨r,rfl,hr⟩,hb0⟩;have HB1:=hide hb0;clear hb0 HSZ1
 by_cases hz : r < 0
 ·have t : decide (r < 0) = true:=dt hz
  clear hr;go_wp2_with fail;go_ret;exact ⟨rfl,zu HB1⟩
 have t : decide (r < 0) = false:=df hz;obtain ⟨hb1,hrl⟩:=hr (by omega);have hr0 : 0 ≤ r:=by omega
 clear hr;go_wp2_with fail;refine (zu HSZ3 r _ hr0 hrl (zu HB1)).mono ?_;rintro e W000 ⟨⟨r3,rfl,hr⟩,rfl⟩;have HB00:=hide (zu HB1);clear HSZ3 HB1 t hz hrl hr0
 by_cases hz : r3 < 0
 ·have t : decide (r3 < 0) = true:=dt hz
  clear hr;go_wp2_with fail;go_ret;exact ⟨rfl,zu HB00⟩
 have t : decide (r3 < 0) = false:=df hz;have hb3 : n3 ≤ 1048576:=(hr (by omega)).1;have HT1:=hide (zu HT1 hb1);have HT3:=hide (zu HT3 hb3);have HM:=hide (zu HM hb1 hb3);have HP:=hide (zu HP hb1 hb3);have HE1:=hide (zu HE1 hb1);have HE3:=hide (zu HE3 hb3);clear hr;go_wp2_with fail;refine (zu HT1 _ (zu HB00)).mono ?_;rintro e W1 ⟨⟨g1,rfl,hg1,hk⟩,hb⟩;have K1:=hide (bc (zu HB00) hb);have K2:=hide (hk);clear hb hk hg1;go_wp2_with fail;refine (zu HT3 _ (zu K1)).mono ?_;rintro e W2 ⟨⟨g2,rfl,hg2,hk⟩,hb⟩;have K3:=hide (bc (zu K1) hb);have K4:=hide ((zu K2).bel hb)
 have K5:=hide (hk);clear hb hk hg2;go_wp2_with fail;refine (zu HM _ _ _ (zu K4) (zu K5)).mono ?_;rintro e W3 ⟨⟨v,c,rfl,hans⟩,hb⟩;have K6:=hide (bc (zu K3) hb);obtain ⟨fn,f1,f2,f3,b0,b1,b2,b3,b4,b5,rfl⟩:=hans.form
 have HPX : Hid (∀ g k X,vb X g 75 (flatG ftc B) → vb X k 9 (strs ns) → Calls Tryz.prog 24 #[.slice (some ⟨g,0,none⟩) n1 n1,.slice (some ⟨k,0,none⟩) n3 n3,.string nm,.int .i64 side] X fun e w' => e = .returned (.tuple #[.agg #[.string fn,.int .i64 f1,.int .i64 f2,.int .i64 f3,.int .i64 b0,.int .i64 b1,.int .i64 b2,.int .i64 b3,.int .i64 b4,.int .i64 b5],.int .i64 c]) ∧ Below X.heap.size X w'):=hide (fun g k X hX hZ => (zu HP g k X hX hZ).mono (by
  rintro e w' ⟨⟨v,c',rfl,hans'⟩,hb'⟩;obtain ⟨rfl,rfl⟩:=hans'.uniq hans
  exact ⟨rfl,hb'⟩))
 have HFE:=hide (fun W => fcE_one fn f1 f2 f3 b0 b1 b2 b3 b4 b5 W)
 have HO : Hid ((#[.string fn,.int .i64 f1,.int .i64 f2,.int .i64 f3,.int .i64 b0,.int .i64 b1,.int .i64 b2,.int .i64 b3,.int .i64 b4,.int .i64 b5] : Array Value).all (·.oneCell') = true):=hide (by simp [Value.oneCell'])
 have cc : (c != c) = false:=by simp
 have hbF:=ba (bfl W3.heap.size W3) (.cells #[.string fn,.int .i64 f1,.int .i64 f2,.int .i64 f3,.int .i64 b0,.int .i64 b1,.int .i64 b2,.int .i64 b3,.int .i64 b4,.int .i64 b5] 43);clear hans HP HM hb;have K7:=hide (bc (zu K6) hbF);have K8:=hide (vb_new W3 43 [.string fn,.int .i64 f1,.int .i64 f2,.int .i64 f3,.int .i64 b0,.int .i64 b1,.int .i64 b2,.int .i64 b3,.int .i64 b4,.int .i64 b5] _ rfl);clear hbF
 go_wp2_with (refine wpl_putNew rfl 43 _ _ rfl W3 _ #[.string fn,.int .i64 f1,.int .i64 f2,.int .i64 f3,.int .i64 b0,.int .i64 b1,.int .i64 b2,.int .i64 b3,.int .i64 b4,.int .i64 b5] 43 rfl rfl (zu HI) rfl (zu HO) ?_)
 refine (zu HT1 _ (zu K7)).mono ?_;rintro e W4 ⟨⟨g4,rfl,hg4,hk⟩,hb⟩;have K9:=hide (bc (zu K7) hb);have K10:=hide ((zu K8).bel hb);have K11:=hide (hk);clear hb hk hg4;go_wp2_with fail;refine (zu HT3 _ (zu K9)).mono ?_;rintro e W5 ⟨⟨g5,rfl,hg5,hk⟩,hb⟩;have K12:=hide (bc (zu K9) hb);have K13:=hide ((zu K10).bel hb);have K14:=hide ((zu K11).bel hb);have K15:=hide (hk);clear hb hk hg5;go_wp2_with fail;refine (zu HPX _ _ _ (zu K14) (zu K15)).mono ?_;rintro e W6 ⟨rfl,hb⟩;have K16:=hide (bc (zu K12) hb);have K17:=hide ((zu K13).bel hb);have K18:=hide ((zu K14).bel hb)
 have K19:=hide ((zu K15).bel hb);clear hb;have hbF:=ba (bfl W6.heap.size W6) (.cells #[.string fn,.int .i64 f1,.int .i64 f2,.int .i64 f3,.int .i64 b0,.int .i64 b1,.int .i64 b2,.int .i64 b3,.int .i64 b4,.int .i64 b5] 43);have K20:=hide (bc (zu K16) hbF);have K21:=hide ((zu K17).bel hbF);have K22:=hide ((zu K18).bel hbF);have K23:=hide ((zu K19).bel hbF);have K24:=hide (vb_new W6 43 [.string fn,.int .i64 f1,.int .i64 f2,.int .i64 f3,.int .i64 b0,.int .i64 b1,.int .i64 b2,.int .i64 b3,.int .i64 b4,.int .i64 b5] _ rfl);clear hbF;have d0:=(zu K21).cell (m:=0) rfl
 have d1:=(zu K21).cell (m:=1) rfl;have d2:=(zu K21).cell (m:=2) rfl;have d3:=(zu K21).cell (m:=3) rfl;have d4:=(zu K21).cell (m:=4) rfl;have d5:=(zu K21).cell (m:=5) rfl;have d6:=(zu K21).cell (m:=6) rfl;have d7:=(zu K21).cell (m:=7) rfl;have d8:=(zu K21).cell (m:=8) rfl;have d9:=(zu K21).cell (m:=9) rfl;have e0:=(zu K24).cell (m:=0) rfl;have e1:=(zu K24).cell (m:=1) rfl;have e2:=(zu K24).cell (m:=2) rfl;have e3:=(zu K24).cell (m:=3) rfl;have e4:=(zu K24).cell (m:=4) rfl;have e5:=(zu K24).cell (m:=5) rfl
 have e6:=(zu K24).cell (m:=6) rfl;have e7:=(zu K24).cell (m:=7) rfl;have e8:=(zu K24).cell (m:=8) rfl;have e9:=(zu K24).cell (m:=9) rfl
 go_wp2_with (refine wpl_putNew rfl 43 _ _ rfl W6 _ #[.string fn,.int .i64 f1,.int .i64 f2,.int .i64 f3,.int .i64 b0,.int .i64 b1,.int .i64 b2,.int .i64 b3,.int .i64 b4,.int .i64 b5] 43 rfl rfl (zu HI) rfl (zu HO) ?_)
 refine (zu HFE _).mono ?_;rintro e W7 ⟨rfl,hb⟩;have K25:=hide (bc (zu K20) hb);have K26:=hide ((zu K21).bel hb);have K27:=hide ((zu K22).bel hb);have K28:=hide ((zu K23).bel hb);have K29:=hide ((zu K24).bel hb);clear hb d0 d1 d2 d3 d4 d5 d6 d7 d8 d9 e0 e1 e2 e3 e4 e5 e6 e7 e8 e9;go_wp2_with fail;refine (zu HT1 _ (zu K25)).mono ?_;rintro e W8 ⟨⟨g8,rfl,hg8,hk⟩,hb⟩;have K30:=hide (bc (zu K25) hb);have K31:=hide ((zu K26).bel hb);have K32:=hide ((zu K27).bel hb);have K33:=hide ((zu K28).bel hb);have K34:=hide ((zu K29).bel hb);have K35:=hide (hk);clear hb hk hg8
 go_wp2_with fail;refine (zu HE1 _ _ _ (zu K32) (zu K35)).mono ?_;rintro e W9 ⟨rfl,hb⟩;have K36:=hide (bc (zu K30) hb);have K37:=hide ((zu K31).bel hb);have K38:=hide ((zu K32).bel hb);have K39:=hide ((zu K33).bel hb);have K40:=hide ((zu K34).bel hb);clear hb;go_wp2_with fail;refine (zu HT3 _ (zu K36)).mono ?_;rintro e WA ⟨⟨gA,rfl,hgA,hk⟩,hb⟩;have K41:=hide (bc (zu K36) hb);have K42:=hide ((zu K37).bel hb);have K43:=hide ((zu K38).bel hb);have K44:=hide ((zu K39).bel hb);have K45:=hide ((zu K40).bel hb);have K46:=hide (hk);clear hb hk hgA;go_wp2_with fail
 refine (zu HE3 _ _ _ (zu K44) (zu K46)).mono ?_;rintro e WB ⟨rfl,hb⟩;have K47:=hide (bc (zu K41) hb);have K48:=hide ((zu K42).bel hb);have K49:=hide ((zu K43).bel hb);have K50:=hide ((zu K44).bel hb);have K51:=hide ((zu K45).bel hb);clear hb;go_wp2_with fail;go_ret;exact ⟨rfl,(zu K47)⟩
theorem fnExactFaceOf_own : ownKnob Tryz.prog.godebug = none:=by kernel_rfl
theorem fnExactFaceOf_laidOut : laidOutB Tryz.prog = true:=by kernel_rfl
theorem fnExactFaceOf_lifted (os : Os) (started : os.Started) (H : Type) (enc : TypeId × Value → H) :
  ReturnsInHanded {} Tryz.checked os 4 .any (Rows.fnExactFaceOfSpec.pre6 enc Tryz.prog Tryz.f4 Rows.fnExactFaceOfRow.domain false) (Rows.fnExactFaceOfSpec.post enc Tryz.prog Tryz.f4 false true false false):=by
 refine returnsInHanded_of_change (C:=Tryz.checked) fnExactFaceOf_own started (by kernel_rfl) Tryz.func4
  (ChangeSpec.witness6 (enc:=enc) (C:=Tryz.checked) false ⟨#[],#[.slice none 0 0,.slice none 0 0,.string ByteArray.empty,.int .i64 0],[]⟩ 8 (by kernel_rfl) (by kernel_rfl) (by kernel_rfl) (by kernel_rfl)) ?_
 intro W base args ds gs before hval0 hW hcnd _;have hval : ∀ (j : Nat) t v,Tryz.f4.params[j]? = some t → args[j]? = some v → Value.okWide Tryz.prog W .any base t v:=hval0;have hW':=hW;obtain ⟨p,q,hA0,hV,rfl,hfz,hnd⟩:=hW;have hA : DataW.TrodAll enc Tryz.prog W 0 (fun _ => true) true Tryz.f4.params.toList args.toList ds p:=hA0;rw [Tryz.params4] at hA hval;obtain ⟨v0,vs0,d0,ds0,p0,q0,hargs,rfl,rfl,h0,r0⟩:=trodAll_cons hA;obtain ⟨v1,vs1,d1,ds1,p1,q1,rfl,rfl,rfl,h1,r1⟩:=trodAll_cons r0;obtain ⟨v2,vs2,d2,ds2,p2,q2,rfl,rfl,rfl,h2,r2⟩:=trodAll_cons r1
 obtain ⟨v3,vs3,d3,ds3,p3,q3,rfl,rfl,rfl,h3,r3⟩:=trodAll_cons r2;obtain ⟨rfl,rfl,rfl⟩:=trodAll_nil r3;obtain rfl : args = #[v0,v1,v2,v3]:=by cases args;simp_all
 obtain ⟨rfl,rfl⟩:=trodVars_none hV;obtain ⟨a0,len0,cap0,rfl⟩:=okWide_slice Tryz.underlying22 (hval 0 22 v0 rfl rfl);have k0:=h0;have lt0 : ∀ x ∈ p0,x.block < W.heap.size:=by obtain ⟨m,hm⟩:=k0;exact DataW.trod_lt m _ _ _ hm
 obtain ⟨pp0,po0,ms0,b0,l0,w0⟩ : ∃ (pp po : Nat) (J : List Ft),len0 ≤ 9223372036854775807 ∧ J.length = len0 ∧ (∀ f ∈ J,f.nm.size ≤ maxLen ∧ f.on.size ≤ maxLen ∧ f.ov.size ≤ maxLen) ∧ SlG ftc 15 W a0 pp po J:=by
  obtain ⟨fuel,hf⟩:=h0;obtain ⟨u,n,cap,pp,po,ms,hcs,hn,hl,hx⟩:=open_fts hf;simp [Value.cells] at hcs;obtain ⟨rfl,rfl,rfl⟩:=hcs;exact ⟨pp,po,ms,hn,hl,hx⟩
 obtain ⟨a1,len1,cap1,rfl⟩:=okWide_slice Tryz.underlying23 (hval 1 23 v1 rfl rfl);have k1:=h1;have lt1 : ∀ x ∈ p1,x.block < W.heap.size:=by obtain ⟨m,hm⟩:=k1;exact DataW.trod_lt m _ _ _ hm
 obtain ⟨pp1,po1,ms1,b1,l1,w1⟩ : ∃ (pp po : Nat) (J : List ByteArray),len1 ≤ 9223372036854775807 ∧ J.length = len1 ∧ (∀ s ∈ J,s.size ≤ maxLen) ∧ StAt W a1 J:=by
  obtain ⟨fuel,hf⟩:=h1;obtain ⟨u,n,cap,pp,po,ms,hcs,hn,hl,hx⟩:=open_sts hf;simp [Value.cells] at hcs;obtain ⟨rfl,rfl,rfl⟩:=hcs;exact ⟨pp,po,ms,hn,hl,hx⟩
 obtain ⟨s2,rfl,rfl,rfl,hs2⟩:=Go.ChangeMaps.open_string Tryz.underlying9 (hval 2 9 v2 rfl rfl) h2;obtain ⟨a3,rfl,rfl,rfl,w3⟩:=open_int Tryz.underlying3 (hval 3 3 v3 rfl rfl) h3;clear hA0 hval0;refine (fnExactFaceOf_walk a0 len0 cap0 pp0 po0 ms0 a1 len1 cap1 pp1 po1 ms1 s2 a3 W b0 l0 w0 b1 l1 w1 hs2 w3).mono fun e W' ⟨he,bel⟩ => ?_
 subst he;exact ⟨_,rfl,_,_,_,[],_,[],hW',trodAll_mk1 (shut_bool Tryz.underlying4 _),(trodAll_cons_mk (Below.trod fnExactFaceOf_laidOut (by kernel_rfl) (of_decide_eq_true (by kernel_rfl)) k0 bel lt0) (trodAll_cons_mk (Below.trod fnExactFaceOf_laidOut (by kernel_rfl) (of_decide_eq_true (by kernel_rfl)) k1 bel lt1) (trodAll_cons_mk (Go.ChangeMaps.shut_string Tryz.underlying9 hs2) (trodAll_cons_mk (shut_int Tryz.underlying3 w3) trodAll_mk0)))),rfl,bel.frame _,fun h => by cases h⟩
theorem fnExactFaceOf_over : Rows.fnExactFaceOfRow.holds Tryz.pinned (OpenSpec.ofChange Rows.fnExactFaceOfSpec) :=
 OpenClaim.holds_of_wide 4 Tryz.f4 rfl rfl rfl rfl rfl rfl rfl ⟨rfl,rfl,rfl,rfl,rfl⟩ rfl rfl rfl rfl rfl (by kernel_rfl) Tryz.func4 (by kernel_rfl)
  (of_decide_eq_true (by kernel_rfl)) (by unfold Func.isWrapper;first | (rw [if_pos (by decide +kernel)];kernel_rfl) | (rw [if_neg (by decide +kernel)];exact ⟨rfl,rfl⟩))
  (fun os started H enc _ => fnExactFaceOf_lifted os started H enc)
theorem fnExactFaceOf_holds : Rows.FnExactFaceOfSaid:=fnExactFaceOf_over
#print axioms fnExactFaceOf_holds
end Go.Proofs.YtkiplmabjeadgaaGreat
