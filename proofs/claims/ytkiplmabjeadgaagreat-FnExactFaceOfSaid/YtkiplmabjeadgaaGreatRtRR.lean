/- The program's question whether a feature is right, whole. -/
import Derived.Test.YtkiplmabjeadgaaGreatBdP16R
import Derived.Test.YtkiplmabjeadgaaGreatRtSR
import Derived.Test.YtkiplmabjeadgaaGreatBdS22R
namespace Go.Proofs.YtkiplmabjeadgaaGreat
set_option maxRecDepth 100000
set_option maxHeartbeats 16000000
open Go.ChangeShapes Go.WideShapes Go.ChangeAt Go.RowKit
set_option linter.unusedVariables false
set_option linter.unusedSimpArgs false
theorem emp_list' (s : ByteArray) : emp s = (s.toList == []):=by
 unfold emp sEq;rw [show (⟨#[]⟩ : ByteArray).toList = [] by rw [ByteArray.toList_eq]]
theorem rightP_1 (s o v : ByteArray) (k d x0 y0 z0 x1 y1 z1 n dx dy dz : Int) (w : World) (hs : s.size ≤ maxLen) (ho : o.size ≤ maxLen) (hv : v.size ≤ maxLen) : Calls Tryz.prog 147 #[ftv ⟨s,o,v,1,d,x0,y0,z0,x1,y1,z1,n,dx,dy,dz⟩] w fun e w' => e = .returned (.bool (ftr ⟨s,o,v,1,d,x0,y0,z0,x1,y1,z1,n,dx,dy,dz⟩)) ∧ Below w.heap.size w w':=by
 have N0:=hide (fun W => implName_any s W hs);have HF:=hide (fun W => fits_any (-24) 24 x0 y0 z0 x1 y1 z1 W);have HS:=hide (fun W => stand_any s o v 1 d x0 y0 z0 x1 y1 z1 n dx dy dz W ho);have HE:=fun W => eqA s o v 1 d x0 y0 z0 x1 y1 z1 n dx dy dz W
 rw [fit_loose] at HF
 have ev : ftr ⟨s,o,v,1,d,x0,y0,z0,x1,y1,z1,n,dx,dy,dz⟩ = (nameB s && ((v.toList == []) && (n == 0) && (dx == 0) && (dy == 0) && (dz == 0)) && loose x0 y0 z0 x1 y1 z1 && (if o.toList = [] then d == 0 else nameB o && btw d 1 6)):=by
  unfold ftr btw;simp only [emp_list'];rw [Bool.eq_iff_iff]
  by_cases h1 : o.toList = [] <;> by_cases h2 : v.toList = [] <;> simp [h1,h2] <;> grind
 rw [ev];clear ev;have V0:=hide (vb_new w 75 (ftc ⟨s,o,v,1,d,x0,y0,z0,x1,y1,z1,n,dx,dy,dz⟩) _ rfl);have V1:=hide ((vb_new w 75 (ftc ⟨s,o,v,1,d,x0,y0,z0,x1,y1,z1,n,dx,dy,dz⟩) _ rfl).bel (ba (bfl _ _) (.cells (ftc ⟨s,o,⟨#[]⟩,1,d,x0,y0,z0,x1,y1,z1,0,0,0,0⟩).toArray 75)));have V2:=hide (vb_new (w.alloc (.cells (ftc ⟨s,o,v,1,d,x0,y0,z0,x1,y1,z1,n,dx,dy,dz⟩).toArray 75)) 75 (ftc ⟨s,o,⟨#[]⟩,1,d,x0,y0,z0,x1,y1,z1,0,0,0,0⟩) _ rfl)
 have HB:=hide (ba (ba (bfl w.heap.size w) (.cells (ftc ⟨s,o,v,1,d,x0,y0,z0,x1,y1,z1,n,dx,dy,dz⟩).toArray 75)) (.cells (ftc ⟨s,o,⟨#[]⟩,1,d,x0,y0,z0,x1,y1,z1,0,0,0,0⟩).toArray 75));simp only [World.size_alloc] at V2;unfold ftv at HS ⊢;generalize (if o.toList = [] then d == 0 else nameB o && btw d 1 6) = bs at *;generalize nameB s = a at *;generalize loose x0 y0 z0 x1 y1 z1 = l at *;generalize ((v.toList == []) && (n == 0) && (dx == 0) && (dy == 0) && (dz == 0)) = q at *;go_enter Tryz.func147,Tryz.ntmps147;go_wp2_with fail;refine (zu N0 _).mono ?_
 rintro e W1 ⟨rfl,hb⟩
 cases a
 ·go_wp2_with fail
  go_ret;exact ⟨rfl,bc (zu HB) hb⟩
 obtain ⟨c0,c1,c2,c3,c4,c5,c6,c7,c8,c9,c10,c11,c12,c13,c14⟩:=vb15 ((zu V1).bel hb);obtain ⟨e0,e1,e2,e3,e4,e5,e6,e7,e8,e9,e10,e11,e12,e13,e14⟩:=vb15 ((zu V2).bel hb);simp only at c0 c1 c2 c3 c4 c5 c6 c7 c8 c9 c10 c11 c12 c13 c14 e0 e1 e2 e3 e4 e5 e6 e7 e8 e9 e10 e11 e12 e13 e14;have U1:=hide ((zu V1).bel hb);have HB1:=hide (bc (zu HB) hb);clear hb HB V0 V1 V2
 cases q
 ·go_wp2_with fail
  go_ret;exact ⟨rfl,zu HB1⟩
 go_wp2_with fail;refine (zu HF _).mono ?_;rintro e W2 ⟨rfl,hb⟩
 cases l
 ·go_wp2_with fail
  go_ret;exact ⟨rfl,bc (zu HB1) hb⟩
 clear c0 c1 c2 c3 c4 c5 c6 c7 c8 c9 c10 c11 c12 c13 c14 e0 e1 e2 e3 e4 e5 e6 e7 e8 e9 e10 e11 e12 e13 e14;obtain ⟨c0,c1,c2,c3,c4,c5,c6,c7,c8,c9,c10,c11,c12,c13,c14⟩:=vb15 ((zu U1).bel hb);simp only at c0 c1 c2 c3 c4 c5 c6 c7 c8 c9 c10 c11 c12 c13 c14;have HB2:=hide (bc (zu HB1) hb);clear hb;go_wp2_with fail;refine (zu HS _).mono ?_;rintro e W3 ⟨rfl,hb⟩
 cases bs <;> (go_wp2_with fail) <;> (go_ret;exact ⟨rfl,bc (zu HB2) hb⟩)
theorem rightP_2 (s o v : ByteArray) (k d x0 y0 z0 x1 y1 z1 n dx dy dz : Int) (w : World) (hs : s.size ≤ maxLen) (ho : o.size ≤ maxLen) (hv : v.size ≤ maxLen) : Calls Tryz.prog 147 #[ftv ⟨s,o,v,2,d,x0,y0,z0,x1,y1,z1,n,dx,dy,dz⟩] w fun e w' => e = .returned (.bool (ftr ⟨s,o,v,2,d,x0,y0,z0,x1,y1,z1,n,dx,dy,dz⟩)) ∧ Below w.heap.size w w':=by
 have N0:=hide (fun W => implName_any s W hs);have HF:=hide (fun W => fits_any (-24) 24 x0 y0 z0 x1 y1 z1 W);have HS:=hide (fun W => stand_any s o v 2 d x0 y0 z0 x1 y1 z1 n dx dy dz W ho);have HE:=fun W => eqA s o v 2 d x0 y0 z0 x1 y1 z1 n dx dy dz W
 rw [fit_loose] at HF
 have ev : ftr ⟨s,o,v,2,d,x0,y0,z0,x1,y1,z1,n,dx,dy,dz⟩ = (nameB s && ((v.toList == []) && (n == 0) && (dx == 0) && (dy == 0) && (dz == 0)) && loose x0 y0 z0 x1 y1 z1 && (if o.toList = [] then d == 0 else nameB o && btw d 1 6)):=by
  unfold ftr btw;simp only [emp_list'];rw [Bool.eq_iff_iff]
  by_cases h1 : o.toList = [] <;> by_cases h2 : v.toList = [] <;> simp [h1,h2] <;> grind
 rw [ev];clear ev;have V0:=hide (vb_new w 75 (ftc ⟨s,o,v,2,d,x0,y0,z0,x1,y1,z1,n,dx,dy,dz⟩) _ rfl);have V1:=hide ((vb_new w 75 (ftc ⟨s,o,v,2,d,x0,y0,z0,x1,y1,z1,n,dx,dy,dz⟩) _ rfl).bel (ba (bfl _ _) (.cells (ftc ⟨s,o,⟨#[]⟩,2,d,x0,y0,z0,x1,y1,z1,0,0,0,0⟩).toArray 75)));have V2:=hide (vb_new (w.alloc (.cells (ftc ⟨s,o,v,2,d,x0,y0,z0,x1,y1,z1,n,dx,dy,dz⟩).toArray 75)) 75 (ftc ⟨s,o,⟨#[]⟩,2,d,x0,y0,z0,x1,y1,z1,0,0,0,0⟩) _ rfl)
 have HB:=hide (ba (ba (bfl w.heap.size w) (.cells (ftc ⟨s,o,v,2,d,x0,y0,z0,x1,y1,z1,n,dx,dy,dz⟩).toArray 75)) (.cells (ftc ⟨s,o,⟨#[]⟩,2,d,x0,y0,z0,x1,y1,z1,0,0,0,0⟩).toArray 75));simp only [World.size_alloc] at V2;unfold ftv at HS ⊢;generalize (if o.toList = [] then d == 0 else nameB o && btw d 1 6) = bs at *;generalize nameB s = a at *;generalize loose x0 y0 z0 x1 y1 z1 = l at *;generalize ((v.toList == []) && (n == 0) && (dx == 0) && (dy == 0) && (dz == 0)) = q at *;go_enter Tryz.func147,Tryz.ntmps147;go_wp2_with fail;refine (zu N0 _).mono ?_
 rintro e W1 ⟨rfl,hb⟩
 cases a
 ·go_wp2_with fail
  go_ret;exact ⟨rfl,bc (zu HB) hb⟩
 obtain ⟨c0,c1,c2,c3,c4,c5,c6,c7,c8,c9,c10,c11,c12,c13,c14⟩:=vb15 ((zu V1).bel hb);obtain ⟨e0,e1,e2,e3,e4,e5,e6,e7,e8,e9,e10,e11,e12,e13,e14⟩:=vb15 ((zu V2).bel hb);simp only at c0 c1 c2 c3 c4 c5 c6 c7 c8 c9 c10 c11 c12 c13 c14 e0 e1 e2 e3 e4 e5 e6 e7 e8 e9 e10 e11 e12 e13 e14;have U1:=hide ((zu V1).bel hb);have HB1:=hide (bc (zu HB) hb);clear hb HB V0 V1 V2
 cases q
 ·go_wp2_with fail
  go_ret;exact ⟨rfl,zu HB1⟩
 go_wp2_with fail;refine (zu HF _).mono ?_;rintro e W2 ⟨rfl,hb⟩
 cases l
 ·go_wp2_with fail
  go_ret;exact ⟨rfl,bc (zu HB1) hb⟩
 clear c0 c1 c2 c3 c4 c5 c6 c7 c8 c9 c10 c11 c12 c13 c14 e0 e1 e2 e3 e4 e5 e6 e7 e8 e9 e10 e11 e12 e13 e14;obtain ⟨c0,c1,c2,c3,c4,c5,c6,c7,c8,c9,c10,c11,c12,c13,c14⟩:=vb15 ((zu U1).bel hb);simp only at c0 c1 c2 c3 c4 c5 c6 c7 c8 c9 c10 c11 c12 c13 c14;have HB2:=hide (bc (zu HB1) hb);clear hb;go_wp2_with fail;refine (zu HS _).mono ?_;rintro e W3 ⟨rfl,hb⟩
 cases bs <;> (go_wp2_with fail) <;> (go_ret;exact ⟨rfl,bc (zu HB2) hb⟩)
theorem rightP_3 (s o v : ByteArray) (k d x0 y0 z0 x1 y1 z1 n dx dy dz : Int) (w : World) (hs : s.size ≤ maxLen) (ho : o.size ≤ maxLen) (hv : v.size ≤ maxLen) : Calls Tryz.prog 147 #[ftv ⟨s,o,v,3,d,x0,y0,z0,x1,y1,z1,n,dx,dy,dz⟩] w fun e w' => e = .returned (.bool (ftr ⟨s,o,v,3,d,x0,y0,z0,x1,y1,z1,n,dx,dy,dz⟩)) ∧ Below w.heap.size w w':=by
 have N0:=hide (fun W => implName_any s W hs);have N2:=hide (fun W => implName_any v W hv);have HC:=hide (fun W => btw_any n 1 8 W);have HS:=hide (fun W => step_any s o v 3 d x0 y0 z0 x1 y1 z1 n dx dy dz W);have HE:=fun W => eqB s o v 3 d x0 y0 z0 x1 y1 z1 n dx dy dz W
 have ev : ftr ⟨s,o,v,3,d,x0,y0,z0,x1,y1,z1,n,dx,dy,dz⟩ = (nameB s && ((o.toList == []) && (d == 0) && (x0 == 0) && (y0 == 0) && (z0 == 0) && (x1 == 0) && (y1 == 0) && (z1 == 0)) && nameB v && btw n 1 8 && (inG dx && inG dy && inG dz && decide (dx ≠ 0 ∨ dy ≠ 0 ∨ dz ≠ 0))):=by
  have hn:=@nameB_not v;unfold ftr btw;simp only [emp_list'] at hn ⊢;rw [Bool.eq_iff_iff]
  by_cases h1 : o.toList = [] <;> by_cases h2 : v.toList = [] <;> simp [h1,h2] at hn ⊢ <;> grind
 rw [ev];clear ev;have V0:=hide (vb_new w 75 (ftc ⟨s,o,v,3,d,x0,y0,z0,x1,y1,z1,n,dx,dy,dz⟩) _ rfl);have V1:=hide ((vb_new w 75 (ftc ⟨s,o,v,3,d,x0,y0,z0,x1,y1,z1,n,dx,dy,dz⟩) _ rfl).bel (ba (bfl _ _) (.cells (ftc ⟨s,⟨#[]⟩,v,3,0,0,0,0,0,0,0,n,dx,dy,dz⟩).toArray 75)));have V2:=hide (vb_new (w.alloc (.cells (ftc ⟨s,o,v,3,d,x0,y0,z0,x1,y1,z1,n,dx,dy,dz⟩).toArray 75)) 75 (ftc ⟨s,⟨#[]⟩,v,3,0,0,0,0,0,0,0,n,dx,dy,dz⟩) _ rfl)
 have HB:=hide (ba (ba (bfl w.heap.size w) (.cells (ftc ⟨s,o,v,3,d,x0,y0,z0,x1,y1,z1,n,dx,dy,dz⟩).toArray 75)) (.cells (ftc ⟨s,⟨#[]⟩,v,3,0,0,0,0,0,0,0,n,dx,dy,dz⟩).toArray 75));simp only [World.size_alloc] at V2;unfold ftv at HS ⊢;generalize (inG dx && inG dy && inG dz && decide (dx ≠ 0 ∨ dy ≠ 0 ∨ dz ≠ 0)) = bs at *;generalize nameB s = a at *;generalize nameB v = l at *;generalize btw n 1 8 = m at *;generalize ((o.toList == []) && (d == 0) && (x0 == 0) && (y0 == 0) && (z0 == 0) && (x1 == 0) && (y1 == 0) && (z1 == 0)) = q at *;go_enter Tryz.func147,Tryz.ntmps147
 go_wp2_with fail;refine (zu N0 _).mono ?_;rintro e W1 ⟨rfl,hb⟩
 cases a
 ·go_wp2_with fail
  go_ret;exact ⟨rfl,bc (zu HB) hb⟩
 obtain ⟨c0,c1,c2,c3,c4,c5,c6,c7,c8,c9,c10,c11,c12,c13,c14⟩:=vb15 ((zu V1).bel hb);obtain ⟨e0,e1,e2,e3,e4,e5,e6,e7,e8,e9,e10,e11,e12,e13,e14⟩:=vb15 ((zu V2).bel hb);simp only at c0 c1 c2 c3 c4 c5 c6 c7 c8 c9 c10 c11 c12 c13 c14 e0 e1 e2 e3 e4 e5 e6 e7 e8 e9 e10 e11 e12 e13 e14;have U1:=hide ((zu V1).bel hb);have HB1:=hide (bc (zu HB) hb);clear hb HB V0 V1 V2
 cases q
 ·go_wp2_with fail
  go_ret;exact ⟨rfl,zu HB1⟩
 go_wp2_with fail;refine (zu N2 _).mono ?_;rintro e W2 ⟨rfl,hb⟩
 cases l
 ·go_wp2_with fail
  go_ret;exact ⟨rfl,bc (zu HB1) hb⟩
 clear c0 c1 c2 c3 c4 c5 c6 c7 c8 c9 c10 c11 c12 c13 c14 e0 e1 e2 e3 e4 e5 e6 e7 e8 e9 e10 e11 e12 e13 e14;obtain ⟨c0,c1,c2,c3,c4,c5,c6,c7,c8,c9,c10,c11,c12,c13,c14⟩:=vb15 ((zu U1).bel hb);simp only at c0 c1 c2 c3 c4 c5 c6 c7 c8 c9 c10 c11 c12 c13 c14;have HB2:=hide (bc (zu HB1) hb);clear hb;go_wp2_with fail;refine (zu HC _).mono ?_;rintro e W3 ⟨rfl,rfl⟩
 cases m
 ·go_wp2_with fail
  go_ret;exact ⟨rfl,zu HB2⟩
 go_wp2_with fail;refine (zu HS _).mono ?_;rintro e W3 ⟨rfl,hb⟩
 cases bs <;> (go_wp2_with fail) <;> (go_ret;exact ⟨rfl,bc (zu HB2) hb⟩)
theorem rightP_4 (s o v : ByteArray) (k d x0 y0 z0 x1 y1 z1 n dx dy dz : Int) (w : World) (hs : s.size ≤ maxLen) (ho : o.size ≤ maxLen) (hv : v.size ≤ maxLen) (h1 : k ≠ 1) (h2 : k ≠ 2) (h3 : k ≠ 3) : Calls Tryz.prog 147 #[ftv ⟨s,o,v,k,d,x0,y0,z0,x1,y1,z1,n,dx,dy,dz⟩] w fun e w' => e = .returned (.bool (ftr ⟨s,o,v,k,d,x0,y0,z0,x1,y1,z1,n,dx,dy,dz⟩)) ∧ Below w.heap.size w w':=by
 have e1 : (k == 1) = false:=by simpa using h1
 have e2 : (k == 2) = false:=by simpa using h2
 have e3 : (k == 3) = false:=by simpa using h3
 have ev : ftr ⟨s,o,v,k,d,x0,y0,z0,x1,y1,z1,n,dx,dy,dz⟩ = false:=by simp [ftr,h1,h2,h3]
 rw [ev];unfold ftv;go_enter Tryz.func147,Tryz.ntmps147;go_wp2_with fail;go_ret;exact ⟨rfl,ba (bfl _ _) _⟩
theorem rightP_any (f : Ft) (w : World) (hs : f.nm.size ≤ maxLen) (ho : f.on.size ≤ maxLen) (hv : f.ov.size ≤ maxLen) : Calls Tryz.prog 147 #[ftv f] w fun e w' => e = .returned (.bool (ftr f)) ∧ Below w.heap.size w w':=by
 obtain ⟨s,o,v,k,d,x0,y0,z0,x1,y1,z1,n,dx,dy,dz⟩:=f
 by_cases h1 : k = 1
 ·subst h1;exact rightP_1 s o v 0 d x0 y0 z0 x1 y1 z1 n dx dy dz w hs ho hv
 by_cases h2 : k = 2
 ·subst h2;exact rightP_2 s o v 0 d x0 y0 z0 x1 y1 z1 n dx dy dz w hs ho hv
 by_cases h3 : k = 3
 ·subst h3;exact rightP_3 s o v 0 d x0 y0 z0 x1 y1 z1 n dx dy dz w hs ho hv
 exact rightP_4 s o v k d x0 y0 z0 x1 y1 z1 n dx dy dz w hs ho hv h1 h2 h3
end Go.Proofs.YtkiplmabjeadgaaGreat
