/- The model's question whether a feature is right, whole. -/
import Derived.Test.YtkiplmabjeadgaaGreatBdS22R
namespace Go.Proofs.YtkiplmabjeadgaaGreat
set_option maxRecDepth 100000
set_option maxHeartbeats 16000000
open Go.ChangeShapes Go.WideShapes Go.ChangeAt Go.RowKit
set_option linter.unusedVariables false
set_option linter.unusedSimpArgs false
theorem emp_list (s : ByteArray) : emp s = (s.toList == []):=by
 unfold emp sEq;rw [show (⟨#[]⟩ : ByteArray).toList = [] by rw [ByteArray.toList_eq]]
theorem rightM_1 (s o v : ByteArray) (k d x0 y0 z0 x1 y1 z1 n dx dy dz : Int) (w : World) (hs : s.size ≤ maxLen) (ho : o.size ≤ maxLen) (hv : v.size ≤ maxLen) : Calls Tryz.prog 105 #[ftv ⟨s,o,v,1,d,x0,y0,z0,x1,y1,z1,n,dx,dy,dz⟩] w fun e w' => e = .returned (.bool (ftr ⟨s,o,v,1,d,x0,y0,z0,x1,y1,z1,n,dx,dy,dz⟩)) ∧ Below w.heap.size w w':=by
 have N0:=hide (fun W => specName_any s W hs);have N1:=hide (fun W => specName_any o W ho);have N2:=hide (fun W => specName_any v W hv);have HL:=hide (fun W => looseM_any x0 y0 z0 x1 y1 z1 W);have G0:=hide (fun W => inM_any dx W);have G1:=hide (fun W => inM_any dy W);have G2:=hide (fun W => inM_any dz W);unfold ftv ftr;simp only [emp_list];clear hs ho hv;generalize nameB s = a at *;generalize nameB o = b at *;generalize nameB v = c at *;generalize loose x0 y0 z0 x1 y1 z1 = l at *;generalize inG dx = g0 at *;generalize inG dy = g1 at *;generalize inG dz = g2 at *
 go_enter Tryz.func105,Tryz.ntmps105;go_wp2_with fail;refine (zu N0 _).mono ?_;rintro e W1 ⟨rfl,rfl⟩
 cases a
 ·go_wp2_with fail
  all_goals
   go_ret;exact ⟨ret_bool (by simp),ba (bfl _ _) _⟩
 by_cases eo : o.toList = []
 ·have eo' : (o.toList == []) = true:=by simp [eo]
  by_cases ev : v.toList = []
  ·have ev' : (v.toList == []) = true:=by simp [ev]
   go_wp2_with fail
   all_goals first
    | (go_ret;refine ⟨ret_bool ?_,by first | exact ba (bfl _ _) _ | exact bc (ba (bfl _ _) _) hb⟩;first | rfl | (simp [eo,ev];done) | (simp [eo,ev];omega) | (rw [Bool.eq_iff_iff];simp [eo,ev];done) | (rw [Bool.eq_iff_iff];simp [eo,ev];omega) | (rw [Bool.eq_iff_iff];simp;omega))
    | (refine (zu HL _).mono ?_
       rintro e W1 ⟨rfl,hb⟩;obtain ⟨c0,c1,c2,c3,c4,c5,c6,c7,c8,c9,c10,c11,c12,c13,c14⟩:=vb15 ((vb_new w 75 (ftc ⟨s,o,v,1,_,x0,y0,z0,x1,y1,z1,n,dx,dy,dz⟩) _ rfl).bel hb);simp only at c0 c1 c2 c3 c4 c5 c6 c7 c8 c9 c10 c11 c12 c13 c14
       cases l <;> (go_wp2_with fail) <;> (go_ret;refine ⟨ret_bool ?_,by first | exact ba (bfl _ _) _ | exact bc (ba (bfl _ _) _) hb⟩;first | rfl | (simp [eo,ev];done) | (simp [eo,ev];omega) | (rw [Bool.eq_iff_iff];simp [eo,ev];done) | (rw [Bool.eq_iff_iff];simp [eo,ev];omega) | (rw [Bool.eq_iff_iff];simp;omega)))
  ·have ev' : (v.toList == []) = false:=by simpa using ev
   go_wp2_with fail;refine (zu N2 _).mono ?_;rintro e W1 ⟨rfl,rfl⟩
   cases c
   ·go_wp2_with fail
    all_goals
     go_ret;exact ⟨ret_bool (by simp [eo,ev]),ba (bfl _ _) _⟩
   go_wp2_with fail
   all_goals first
    | (go_ret;refine ⟨ret_bool ?_,by first | exact ba (bfl _ _) _ | exact bc (ba (bfl _ _) _) hb⟩;first | rfl | (simp [eo,ev];done) | (simp [eo,ev];omega) | (rw [Bool.eq_iff_iff];simp [eo,ev];done) | (rw [Bool.eq_iff_iff];simp [eo,ev];omega) | (rw [Bool.eq_iff_iff];simp;omega))
    | (refine (zu HL _).mono ?_
       rintro e W1 ⟨rfl,hb⟩;obtain ⟨c0,c1,c2,c3,c4,c5,c6,c7,c8,c9,c10,c11,c12,c13,c14⟩:=vb15 ((vb_new w 75 (ftc ⟨s,o,v,1,_,x0,y0,z0,x1,y1,z1,n,dx,dy,dz⟩) _ rfl).bel hb);simp only at c0 c1 c2 c3 c4 c5 c6 c7 c8 c9 c10 c11 c12 c13 c14
       cases l <;> (go_wp2_with fail) <;> (go_ret;refine ⟨ret_bool ?_,by first | exact ba (bfl _ _) _ | exact bc (ba (bfl _ _) _) hb⟩;first | rfl | (simp [eo,ev];done) | (simp [eo,ev];omega) | (rw [Bool.eq_iff_iff];simp [eo,ev];done) | (rw [Bool.eq_iff_iff];simp [eo,ev];omega) | (rw [Bool.eq_iff_iff];simp;omega)))
 ·have eo' : (o.toList == []) = false:=by simpa using eo
  go_wp2_with fail;refine (zu N1 _).mono ?_;rintro e W1 ⟨rfl,rfl⟩
  cases b
  ·go_wp2_with fail
   all_goals
    go_ret;exact ⟨ret_bool (by simp [eo]),ba (bfl _ _) _⟩
  by_cases ev : v.toList = []
  ·have ev' : (v.toList == []) = true:=by simp [ev]
   go_wp2_with fail
   all_goals first
    | (go_ret;refine ⟨ret_bool ?_,by first | exact ba (bfl _ _) _ | exact bc (ba (bfl _ _) _) hb⟩;first | rfl | (simp [eo,ev];done) | (simp [eo,ev];omega) | (rw [Bool.eq_iff_iff];simp [eo,ev];done) | (rw [Bool.eq_iff_iff];simp [eo,ev];omega) | (rw [Bool.eq_iff_iff];simp;omega))
    | (refine (zu HL _).mono ?_
       rintro e W1 ⟨rfl,hb⟩;obtain ⟨c0,c1,c2,c3,c4,c5,c6,c7,c8,c9,c10,c11,c12,c13,c14⟩:=vb15 ((vb_new w 75 (ftc ⟨s,o,v,1,_,x0,y0,z0,x1,y1,z1,n,dx,dy,dz⟩) _ rfl).bel hb);simp only at c0 c1 c2 c3 c4 c5 c6 c7 c8 c9 c10 c11 c12 c13 c14
       cases l <;> (go_wp2_with fail) <;> (go_ret;refine ⟨ret_bool ?_,by first | exact ba (bfl _ _) _ | exact bc (ba (bfl _ _) _) hb⟩;first | rfl | (simp [eo,ev];done) | (simp [eo,ev];omega) | (rw [Bool.eq_iff_iff];simp [eo,ev];done) | (rw [Bool.eq_iff_iff];simp [eo,ev];omega) | (rw [Bool.eq_iff_iff];simp;omega)))
  ·have ev' : (v.toList == []) = false:=by simpa using ev
   go_wp2_with fail;refine (zu N2 _).mono ?_;rintro e W1 ⟨rfl,rfl⟩
   cases c
   ·go_wp2_with fail
    all_goals
     go_ret;exact ⟨ret_bool (by simp [eo,ev]),ba (bfl _ _) _⟩
   go_wp2_with fail
   all_goals first
    | (go_ret;refine ⟨ret_bool ?_,by first | exact ba (bfl _ _) _ | exact bc (ba (bfl _ _) _) hb⟩;first | rfl | (simp [eo,ev];done) | (simp [eo,ev];omega) | (rw [Bool.eq_iff_iff];simp [eo,ev];done) | (rw [Bool.eq_iff_iff];simp [eo,ev];omega) | (rw [Bool.eq_iff_iff];simp;omega))
    | (refine (zu HL _).mono ?_
       rintro e W1 ⟨rfl,hb⟩;obtain ⟨c0,c1,c2,c3,c4,c5,c6,c7,c8,c9,c10,c11,c12,c13,c14⟩:=vb15 ((vb_new w 75 (ftc ⟨s,o,v,1,_,x0,y0,z0,x1,y1,z1,n,dx,dy,dz⟩) _ rfl).bel hb);simp only at c0 c1 c2 c3 c4 c5 c6 c7 c8 c9 c10 c11 c12 c13 c14
       cases l <;> (go_wp2_with fail) <;> (go_ret;refine ⟨ret_bool ?_,by first | exact ba (bfl _ _) _ | exact bc (ba (bfl _ _) _) hb⟩;first | rfl | (simp [eo,ev];done) | (simp [eo,ev];omega) | (rw [Bool.eq_iff_iff];simp [eo,ev];done) | (rw [Bool.eq_iff_iff];simp [eo,ev];omega) | (rw [Bool.eq_iff_iff];simp;omega)))
theorem rightM_2 (s o v : ByteArray) (k d x0 y0 z0 x1 y1 z1 n dx dy dz : Int) (w : World) (hs : s.size ≤ maxLen) (ho : o.size ≤ maxLen) (hv : v.size ≤ maxLen) : Calls Tryz.prog 105 #[ftv ⟨s,o,v,2,d,x0,y0,z0,x1,y1,z1,n,dx,dy,dz⟩] w fun e w' => e = .returned (.bool (ftr ⟨s,o,v,2,d,x0,y0,z0,x1,y1,z1,n,dx,dy,dz⟩)) ∧ Below w.heap.size w w':=by
 have N0:=hide (fun W => specName_any s W hs);have N1:=hide (fun W => specName_any o W ho);have N2:=hide (fun W => specName_any v W hv);have HL:=hide (fun W => looseM_any x0 y0 z0 x1 y1 z1 W);have G0:=hide (fun W => inM_any dx W);have G1:=hide (fun W => inM_any dy W);have G2:=hide (fun W => inM_any dz W);unfold ftv ftr;simp only [emp_list];clear hs ho hv;generalize nameB s = a at *;generalize nameB o = b at *;generalize nameB v = c at *;generalize loose x0 y0 z0 x1 y1 z1 = l at *;generalize inG dx = g0 at *;generalize inG dy = g1 at *;generalize inG dz = g2 at *
 go_enter Tryz.func105,Tryz.ntmps105;go_wp2_with fail;refine (zu N0 _).mono ?_;rintro e W1 ⟨rfl,rfl⟩
 cases a
 ·go_wp2_with fail
  all_goals
   go_ret;exact ⟨ret_bool (by simp),ba (bfl _ _) _⟩
 by_cases eo : o.toList = []
 ·have eo' : (o.toList == []) = true:=by simp [eo]
  by_cases ev : v.toList = []
  ·have ev' : (v.toList == []) = true:=by simp [ev]
   go_wp2_with fail
   all_goals first
    | (go_ret;refine ⟨ret_bool ?_,by first | exact ba (bfl _ _) _ | exact bc (ba (bfl _ _) _) hb⟩;first | rfl | (simp [eo,ev];done) | (simp [eo,ev];omega) | (rw [Bool.eq_iff_iff];simp [eo,ev];done) | (rw [Bool.eq_iff_iff];simp [eo,ev];omega) | (rw [Bool.eq_iff_iff];simp;omega))
    | (refine (zu HL _).mono ?_
       rintro e W1 ⟨rfl,hb⟩;obtain ⟨c0,c1,c2,c3,c4,c5,c6,c7,c8,c9,c10,c11,c12,c13,c14⟩:=vb15 ((vb_new w 75 (ftc ⟨s,o,v,2,_,x0,y0,z0,x1,y1,z1,n,dx,dy,dz⟩) _ rfl).bel hb);simp only at c0 c1 c2 c3 c4 c5 c6 c7 c8 c9 c10 c11 c12 c13 c14
       cases l <;> (go_wp2_with fail) <;> (go_ret;refine ⟨ret_bool ?_,by first | exact ba (bfl _ _) _ | exact bc (ba (bfl _ _) _) hb⟩;first | rfl | (simp [eo,ev];done) | (simp [eo,ev];omega) | (rw [Bool.eq_iff_iff];simp [eo,ev];done) | (rw [Bool.eq_iff_iff];simp [eo,ev];omega) | (rw [Bool.eq_iff_iff];simp;omega)))
  ·have ev' : (v.toList == []) = false:=by simpa using ev
   go_wp2_with fail;refine (zu N2 _).mono ?_;rintro e W1 ⟨rfl,rfl⟩
   cases c
   ·go_wp2_with fail
    all_goals
     go_ret;exact ⟨ret_bool (by simp [eo,ev]),ba (bfl _ _) _⟩
   go_wp2_with fail
   all_goals first
    | (go_ret;refine ⟨ret_bool ?_,by first | exact ba (bfl _ _) _ | exact bc (ba (bfl _ _) _) hb⟩;first | rfl | (simp [eo,ev];done) | (simp [eo,ev];omega) | (rw [Bool.eq_iff_iff];simp [eo,ev];done) | (rw [Bool.eq_iff_iff];simp [eo,ev];omega) | (rw [Bool.eq_iff_iff];simp;omega))
    | (refine (zu HL _).mono ?_
       rintro e W1 ⟨rfl,hb⟩;obtain ⟨c0,c1,c2,c3,c4,c5,c6,c7,c8,c9,c10,c11,c12,c13,c14⟩:=vb15 ((vb_new w 75 (ftc ⟨s,o,v,2,_,x0,y0,z0,x1,y1,z1,n,dx,dy,dz⟩) _ rfl).bel hb);simp only at c0 c1 c2 c3 c4 c5 c6 c7 c8 c9 c10 c11 c12 c13 c14
       cases l <;> (go_wp2_with fail) <;> (go_ret;refine ⟨ret_bool ?_,by first | exact ba (bfl _ _) _ | exact bc (ba (bfl _ _) _) hb⟩;first | rfl | (simp [eo,ev];done) | (simp [eo,ev];omega) | (rw [Bool.eq_iff_iff];simp [eo,ev];done) | (rw [Bool.eq_iff_iff];simp [eo,ev];omega) | (rw [Bool.eq_iff_iff];simp;omega)))
 ·have eo' : (o.toList == []) = false:=by simpa using eo
  go_wp2_with fail;refine (zu N1 _).mono ?_;rintro e W1 ⟨rfl,rfl⟩
  cases b
  ·go_wp2_with fail
   all_goals
    go_ret;exact ⟨ret_bool (by simp [eo]),ba (bfl _ _) _⟩
  by_cases ev : v.toList = []
  ·have ev' : (v.toList == []) = true:=by simp [ev]
   go_wp2_with fail
   all_goals first
    | (go_ret;refine ⟨ret_bool ?_,by first | exact ba (bfl _ _) _ | exact bc (ba (bfl _ _) _) hb⟩;first | rfl | (simp [eo,ev];done) | (simp [eo,ev];omega) | (rw [Bool.eq_iff_iff];simp [eo,ev];done) | (rw [Bool.eq_iff_iff];simp [eo,ev];omega) | (rw [Bool.eq_iff_iff];simp;omega))
    | (refine (zu HL _).mono ?_
       rintro e W1 ⟨rfl,hb⟩;obtain ⟨c0,c1,c2,c3,c4,c5,c6,c7,c8,c9,c10,c11,c12,c13,c14⟩:=vb15 ((vb_new w 75 (ftc ⟨s,o,v,2,_,x0,y0,z0,x1,y1,z1,n,dx,dy,dz⟩) _ rfl).bel hb);simp only at c0 c1 c2 c3 c4 c5 c6 c7 c8 c9 c10 c11 c12 c13 c14
       cases l <;> (go_wp2_with fail) <;> (go_ret;refine ⟨ret_bool ?_,by first | exact ba (bfl _ _) _ | exact bc (ba (bfl _ _) _) hb⟩;first | rfl | (simp [eo,ev];done) | (simp [eo,ev];omega) | (rw [Bool.eq_iff_iff];simp [eo,ev];done) | (rw [Bool.eq_iff_iff];simp [eo,ev];omega) | (rw [Bool.eq_iff_iff];simp;omega)))
  ·have ev' : (v.toList == []) = false:=by simpa using ev
   go_wp2_with fail;refine (zu N2 _).mono ?_;rintro e W1 ⟨rfl,rfl⟩
   cases c
   ·go_wp2_with fail
    all_goals
     go_ret;exact ⟨ret_bool (by simp [eo,ev]),ba (bfl _ _) _⟩
   go_wp2_with fail
   all_goals first
    | (go_ret;refine ⟨ret_bool ?_,by first | exact ba (bfl _ _) _ | exact bc (ba (bfl _ _) _) hb⟩;first | rfl | (simp [eo,ev];done) | (simp [eo,ev];omega) | (rw [Bool.eq_iff_iff];simp [eo,ev];done) | (rw [Bool.eq_iff_iff];simp [eo,ev];omega) | (rw [Bool.eq_iff_iff];simp;omega))
    | (refine (zu HL _).mono ?_
       rintro e W1 ⟨rfl,hb⟩;obtain ⟨c0,c1,c2,c3,c4,c5,c6,c7,c8,c9,c10,c11,c12,c13,c14⟩:=vb15 ((vb_new w 75 (ftc ⟨s,o,v,2,_,x0,y0,z0,x1,y1,z1,n,dx,dy,dz⟩) _ rfl).bel hb);simp only at c0 c1 c2 c3 c4 c5 c6 c7 c8 c9 c10 c11 c12 c13 c14
       cases l <;> (go_wp2_with fail) <;> (go_ret;refine ⟨ret_bool ?_,by first | exact ba (bfl _ _) _ | exact bc (ba (bfl _ _) _) hb⟩;first | rfl | (simp [eo,ev];done) | (simp [eo,ev];omega) | (rw [Bool.eq_iff_iff];simp [eo,ev];done) | (rw [Bool.eq_iff_iff];simp [eo,ev];omega) | (rw [Bool.eq_iff_iff];simp;omega)))
theorem rightM_3 (s o v : ByteArray) (k d x0 y0 z0 x1 y1 z1 n dx dy dz : Int) (w : World) (hs : s.size ≤ maxLen) (ho : o.size ≤ maxLen) (hv : v.size ≤ maxLen) : Calls Tryz.prog 105 #[ftv ⟨s,o,v,3,d,x0,y0,z0,x1,y1,z1,n,dx,dy,dz⟩] w fun e w' => e = .returned (.bool (ftr ⟨s,o,v,3,d,x0,y0,z0,x1,y1,z1,n,dx,dy,dz⟩)) ∧ Below w.heap.size w w':=by
 have N0:=hide (fun W => specName_any s W hs);have N1:=hide (fun W => specName_any o W ho);have N2:=hide (fun W => specName_any v W hv);have HL:=hide (fun W => looseM_any x0 y0 z0 x1 y1 z1 W);have G0:=hide (fun W => inM_any dx W);have G1:=hide (fun W => inM_any dy W);have G2:=hide (fun W => inM_any dz W);unfold ftv ftr;simp only [emp_list];clear hs ho hv;generalize nameB s = a at *;generalize nameB o = b at *;generalize nameB v = c at *;generalize loose x0 y0 z0 x1 y1 z1 = l at *;generalize inG dx = g0 at *;generalize inG dy = g1 at *;generalize inG dz = g2 at *
 go_enter Tryz.func105,Tryz.ntmps105;go_wp2_with fail;refine (zu N0 _).mono ?_;rintro e W1 ⟨rfl,rfl⟩
 cases a
 ·go_wp2_with fail
  all_goals
   go_ret;exact ⟨ret_bool (by simp),ba (bfl _ _) _⟩
 by_cases eo : o.toList = []
 ·have eo' : (o.toList == []) = true:=by simp [eo]
  by_cases ev : v.toList = []
  ·have ev' : (v.toList == []) = true:=by simp [ev]
   go_wp2_with fail
   all_goals first
    | (go_ret;refine ⟨ret_bool ?_,by first | exact ba (bfl _ _) _ | exact bc (ba (bfl _ _) _) hb⟩;first | rfl | (simp [eo,ev];done) | (simp [eo,ev];omega) | (rw [Bool.eq_iff_iff];simp [eo,ev];done) | (rw [Bool.eq_iff_iff];simp [eo,ev];omega) | (rw [Bool.eq_iff_iff];simp;omega))
    | (refine (zu G0 _).mono ?_
       rintro e W1 ⟨rfl,rfl⟩
       cases g0
       ·go_wp2_with fail
        all_goals (go_ret;refine ⟨ret_bool ?_,by first | exact ba (bfl _ _) _ | exact bc (ba (bfl _ _) _) hb⟩;first | rfl | (simp [eo,ev];done) | (simp [eo,ev];omega) | (rw [Bool.eq_iff_iff];simp [eo,ev];done) | (rw [Bool.eq_iff_iff];simp [eo,ev];omega) | (rw [Bool.eq_iff_iff];simp;omega))
       go_wp2_with fail;refine (zu G1 _).mono ?_;rintro e W1 ⟨rfl,rfl⟩
       cases g1
       ·go_wp2_with fail
        all_goals (go_ret;refine ⟨ret_bool ?_,by first | exact ba (bfl _ _) _ | exact bc (ba (bfl _ _) _) hb⟩;first | rfl | (simp [eo,ev];done) | (simp [eo,ev];omega) | (rw [Bool.eq_iff_iff];simp [eo,ev];done) | (rw [Bool.eq_iff_iff];simp [eo,ev];omega) | (rw [Bool.eq_iff_iff];simp;omega))
       go_wp2_with fail;refine (zu G2 _).mono ?_;rintro e W1 ⟨rfl,rfl⟩
       cases g2
       ·go_wp2_with fail
        all_goals (go_ret;refine ⟨ret_bool ?_,by first | exact ba (bfl _ _) _ | exact bc (ba (bfl _ _) _) hb⟩;first | rfl | (simp [eo,ev];done) | (simp [eo,ev];omega) | (rw [Bool.eq_iff_iff];simp [eo,ev];done) | (rw [Bool.eq_iff_iff];simp [eo,ev];omega) | (rw [Bool.eq_iff_iff];simp;omega))
       go_wp2_with fail
       all_goals (go_ret;refine ⟨ret_bool ?_,by first | exact ba (bfl _ _) _ | exact bc (ba (bfl _ _) _) hb⟩;first | rfl | (simp [eo,ev];done) | (simp [eo,ev];omega) | (rw [Bool.eq_iff_iff];simp [eo,ev];done) | (rw [Bool.eq_iff_iff];simp [eo,ev];omega) | (rw [Bool.eq_iff_iff];simp;omega)))
  ·have ev' : (v.toList == []) = false:=by simpa using ev
   go_wp2_with fail;refine (zu N2 _).mono ?_;rintro e W1 ⟨rfl,rfl⟩
   cases c
   ·go_wp2_with fail
    all_goals
     go_ret;exact ⟨ret_bool (by simp [eo,ev]),ba (bfl _ _) _⟩
   go_wp2_with fail
   all_goals first
    | (go_ret;refine ⟨ret_bool ?_,by first | exact ba (bfl _ _) _ | exact bc (ba (bfl _ _) _) hb⟩;first | rfl | (simp [eo,ev];done) | (simp [eo,ev];omega) | (rw [Bool.eq_iff_iff];simp [eo,ev];done) | (rw [Bool.eq_iff_iff];simp [eo,ev];omega) | (rw [Bool.eq_iff_iff];simp;omega))
    | (refine (zu G0 _).mono ?_
       rintro e W1 ⟨rfl,rfl⟩
       cases g0
       ·go_wp2_with fail
        all_goals (go_ret;refine ⟨ret_bool ?_,by first | exact ba (bfl _ _) _ | exact bc (ba (bfl _ _) _) hb⟩;first | rfl | (simp [eo,ev];done) | (simp [eo,ev];omega) | (rw [Bool.eq_iff_iff];simp [eo,ev];done) | (rw [Bool.eq_iff_iff];simp [eo,ev];omega) | (rw [Bool.eq_iff_iff];simp;omega))
       go_wp2_with fail;refine (zu G1 _).mono ?_;rintro e W1 ⟨rfl,rfl⟩
       cases g1
       ·go_wp2_with fail
        all_goals (go_ret;refine ⟨ret_bool ?_,by first | exact ba (bfl _ _) _ | exact bc (ba (bfl _ _) _) hb⟩;first | rfl | (simp [eo,ev];done) | (simp [eo,ev];omega) | (rw [Bool.eq_iff_iff];simp [eo,ev];done) | (rw [Bool.eq_iff_iff];simp [eo,ev];omega) | (rw [Bool.eq_iff_iff];simp;omega))
       go_wp2_with fail;refine (zu G2 _).mono ?_;rintro e W1 ⟨rfl,rfl⟩
       cases g2
       ·go_wp2_with fail
        all_goals (go_ret;refine ⟨ret_bool ?_,by first | exact ba (bfl _ _) _ | exact bc (ba (bfl _ _) _) hb⟩;first | rfl | (simp [eo,ev];done) | (simp [eo,ev];omega) | (rw [Bool.eq_iff_iff];simp [eo,ev];done) | (rw [Bool.eq_iff_iff];simp [eo,ev];omega) | (rw [Bool.eq_iff_iff];simp;omega))
       go_wp2_with fail
       all_goals (go_ret;refine ⟨ret_bool ?_,by first | exact ba (bfl _ _) _ | exact bc (ba (bfl _ _) _) hb⟩;first | rfl | (simp [eo,ev];done) | (simp [eo,ev];omega) | (rw [Bool.eq_iff_iff];simp [eo,ev];done) | (rw [Bool.eq_iff_iff];simp [eo,ev];omega) | (rw [Bool.eq_iff_iff];simp;omega)))
 ·have eo' : (o.toList == []) = false:=by simpa using eo
  go_wp2_with fail;refine (zu N1 _).mono ?_;rintro e W1 ⟨rfl,rfl⟩
  cases b
  ·go_wp2_with fail
   all_goals
    go_ret;exact ⟨ret_bool (by simp [eo]),ba (bfl _ _) _⟩
  by_cases ev : v.toList = []
  ·have ev' : (v.toList == []) = true:=by simp [ev]
   go_wp2_with fail
   all_goals first
    | (go_ret;refine ⟨ret_bool ?_,by first | exact ba (bfl _ _) _ | exact bc (ba (bfl _ _) _) hb⟩;first | rfl | (simp [eo,ev];done) | (simp [eo,ev];omega) | (rw [Bool.eq_iff_iff];simp [eo,ev];done) | (rw [Bool.eq_iff_iff];simp [eo,ev];omega) | (rw [Bool.eq_iff_iff];simp;omega))
    | (refine (zu G0 _).mono ?_
       rintro e W1 ⟨rfl,rfl⟩
       cases g0
       ·go_wp2_with fail
        all_goals (go_ret;refine ⟨ret_bool ?_,by first | exact ba (bfl _ _) _ | exact bc (ba (bfl _ _) _) hb⟩;first | rfl | (simp [eo,ev];done) | (simp [eo,ev];omega) | (rw [Bool.eq_iff_iff];simp [eo,ev];done) | (rw [Bool.eq_iff_iff];simp [eo,ev];omega) | (rw [Bool.eq_iff_iff];simp;omega))
       go_wp2_with fail;refine (zu G1 _).mono ?_;rintro e W1 ⟨rfl,rfl⟩
       cases g1
       ·go_wp2_with fail
        all_goals (go_ret;refine ⟨ret_bool ?_,by first | exact ba (bfl _ _) _ | exact bc (ba (bfl _ _) _) hb⟩;first | rfl | (simp [eo,ev];done) | (simp [eo,ev];omega) | (rw [Bool.eq_iff_iff];simp [eo,ev];done) | (rw [Bool.eq_iff_iff];simp [eo,ev];omega) | (rw [Bool.eq_iff_iff];simp;omega))
       go_wp2_with fail;refine (zu G2 _).mono ?_;rintro e W1 ⟨rfl,rfl⟩
       cases g2
       ·go_wp2_with fail
        all_goals (go_ret;refine ⟨ret_bool ?_,by first | exact ba (bfl _ _) _ | exact bc (ba (bfl _ _) _) hb⟩;first | rfl | (simp [eo,ev];done) | (simp [eo,ev];omega) | (rw [Bool.eq_iff_iff];simp [eo,ev];done) | (rw [Bool.eq_iff_iff];simp [eo,ev];omega) | (rw [Bool.eq_iff_iff];simp;omega))
       go_wp2_with fail
       all_goals (go_ret;refine ⟨ret_bool ?_,by first | exact ba (bfl _ _) _ | exact bc (ba (bfl _ _) _) hb⟩;first | rfl | (simp [eo,ev];done) | (simp [eo,ev];omega) | (rw [Bool.eq_iff_iff];simp [eo,ev];done) | (rw [Bool.eq_iff_iff];simp [eo,ev];omega) | (rw [Bool.eq_iff_iff];simp;omega)))
  ·have ev' : (v.toList == []) = false:=by simpa using ev
   go_wp2_with fail;refine (zu N2 _).mono ?_;rintro e W1 ⟨rfl,rfl⟩
   cases c
   ·go_wp2_with fail
    all_goals
     go_ret;exact ⟨ret_bool (by simp [eo,ev]),ba (bfl _ _) _⟩
   go_wp2_with fail
   all_goals first
    | (go_ret;refine ⟨ret_bool ?_,by first | exact ba (bfl _ _) _ | exact bc (ba (bfl _ _) _) hb⟩;first | rfl | (simp [eo,ev];done) | (simp [eo,ev];omega) | (rw [Bool.eq_iff_iff];simp [eo,ev];done) | (rw [Bool.eq_iff_iff];simp [eo,ev];omega) | (rw [Bool.eq_iff_iff];simp;omega))
    | (refine (zu G0 _).mono ?_
       rintro e W1 ⟨rfl,rfl⟩
       cases g0
       ·go_wp2_with fail
        all_goals (go_ret;refine ⟨ret_bool ?_,by first | exact ba (bfl _ _) _ | exact bc (ba (bfl _ _) _) hb⟩;first | rfl | (simp [eo,ev];done) | (simp [eo,ev];omega) | (rw [Bool.eq_iff_iff];simp [eo,ev];done) | (rw [Bool.eq_iff_iff];simp [eo,ev];omega) | (rw [Bool.eq_iff_iff];simp;omega))
       go_wp2_with fail;refine (zu G1 _).mono ?_;rintro e W1 ⟨rfl,rfl⟩
       cases g1
       ·go_wp2_with fail
        all_goals (go_ret;refine ⟨ret_bool ?_,by first | exact ba (bfl _ _) _ | exact bc (ba (bfl _ _) _) hb⟩;first | rfl | (simp [eo,ev];done) | (simp [eo,ev];omega) | (rw [Bool.eq_iff_iff];simp [eo,ev];done) | (rw [Bool.eq_iff_iff];simp [eo,ev];omega) | (rw [Bool.eq_iff_iff];simp;omega))
       go_wp2_with fail;refine (zu G2 _).mono ?_;rintro e W1 ⟨rfl,rfl⟩
       cases g2
       ·go_wp2_with fail
        all_goals (go_ret;refine ⟨ret_bool ?_,by first | exact ba (bfl _ _) _ | exact bc (ba (bfl _ _) _) hb⟩;first | rfl | (simp [eo,ev];done) | (simp [eo,ev];omega) | (rw [Bool.eq_iff_iff];simp [eo,ev];done) | (rw [Bool.eq_iff_iff];simp [eo,ev];omega) | (rw [Bool.eq_iff_iff];simp;omega))
       go_wp2_with fail
       all_goals (go_ret;refine ⟨ret_bool ?_,by first | exact ba (bfl _ _) _ | exact bc (ba (bfl _ _) _) hb⟩;first | rfl | (simp [eo,ev];done) | (simp [eo,ev];omega) | (rw [Bool.eq_iff_iff];simp [eo,ev];done) | (rw [Bool.eq_iff_iff];simp [eo,ev];omega) | (rw [Bool.eq_iff_iff];simp;omega)))
theorem rightM_4 (s o v : ByteArray) (k d x0 y0 z0 x1 y1 z1 n dx dy dz : Int) (w : World) (hs : s.size ≤ maxLen) (ho : o.size ≤ maxLen) (hv : v.size ≤ maxLen) (h1 : k ≠ 1) (h2 : k ≠ 2) (h3 : k ≠ 3) : Calls Tryz.prog 105 #[ftv ⟨s,o,v,k,d,x0,y0,z0,x1,y1,z1,n,dx,dy,dz⟩] w fun e w' => e = .returned (.bool (ftr ⟨s,o,v,k,d,x0,y0,z0,x1,y1,z1,n,dx,dy,dz⟩)) ∧ Below w.heap.size w w':=by
 have N0:=hide (fun W => specName_any s W hs);have N1:=hide (fun W => specName_any o W ho);have N2:=hide (fun W => specName_any v W hv);have HL:=hide (fun W => looseM_any x0 y0 z0 x1 y1 z1 W);have G0:=hide (fun W => inM_any dx W);have G1:=hide (fun W => inM_any dy W);have G2:=hide (fun W => inM_any dz W);unfold ftv ftr;simp only [emp_list];clear hs ho hv;generalize nameB s = a at *;generalize nameB o = b at *;generalize nameB v = c at *;generalize loose x0 y0 z0 x1 y1 z1 = l at *;generalize inG dx = g0 at *;generalize inG dy = g1 at *;generalize inG dz = g2 at *
 have e1 : (k == 1) = false:=by simpa using h1
 have e2 : (k == 2) = false:=by simpa using h2
 have e3 : (k == 3) = false:=by simpa using h3
 go_enter Tryz.func105,Tryz.ntmps105;go_wp2_with fail;refine (zu N0 _).mono ?_;rintro e W1 ⟨rfl,rfl⟩
 cases a
 ·go_wp2_with fail
  all_goals
   go_ret;exact ⟨ret_bool (by simp),ba (bfl _ _) _⟩
 by_cases eo : o.toList = []
 ·have eo' : (o.toList == []) = true:=by simp [eo]
  by_cases ev : v.toList = []
  ·have ev' : (v.toList == []) = true:=by simp [ev]
   go_wp2_with fail
   all_goals (go_ret;refine ⟨ret_bool ?_,by first | exact ba (bfl _ _) _ | exact bc (ba (bfl _ _) _) hb⟩;first | rfl | (simp [eo,ev];done) | (simp [eo,ev];omega) | (rw [Bool.eq_iff_iff];simp [eo,ev];done) | (rw [Bool.eq_iff_iff];simp [eo,ev];omega) | (rw [Bool.eq_iff_iff];simp;omega))
  ·have ev' : (v.toList == []) = false:=by simpa using ev
   go_wp2_with fail;refine (zu N2 _).mono ?_;rintro e W1 ⟨rfl,rfl⟩
   cases c
   ·go_wp2_with fail
    all_goals
     go_ret;exact ⟨ret_bool (by simp [eo,ev]),ba (bfl _ _) _⟩
   go_wp2_with fail
   all_goals (go_ret;refine ⟨ret_bool ?_,by first | exact ba (bfl _ _) _ | exact bc (ba (bfl _ _) _) hb⟩;first | rfl | (simp [eo,ev];done) | (simp [eo,ev];omega) | (rw [Bool.eq_iff_iff];simp [eo,ev];done) | (rw [Bool.eq_iff_iff];simp [eo,ev];omega) | (rw [Bool.eq_iff_iff];simp;omega))
 ·have eo' : (o.toList == []) = false:=by simpa using eo
  go_wp2_with fail;refine (zu N1 _).mono ?_;rintro e W1 ⟨rfl,rfl⟩
  cases b
  ·go_wp2_with fail
   all_goals
    go_ret;exact ⟨ret_bool (by simp [eo]),ba (bfl _ _) _⟩
  by_cases ev : v.toList = []
  ·have ev' : (v.toList == []) = true:=by simp [ev]
   go_wp2_with fail
   all_goals (go_ret;refine ⟨ret_bool ?_,by first | exact ba (bfl _ _) _ | exact bc (ba (bfl _ _) _) hb⟩;first | rfl | (simp [eo,ev];done) | (simp [eo,ev];omega) | (rw [Bool.eq_iff_iff];simp [eo,ev];done) | (rw [Bool.eq_iff_iff];simp [eo,ev];omega) | (rw [Bool.eq_iff_iff];simp;omega))
  ·have ev' : (v.toList == []) = false:=by simpa using ev
   go_wp2_with fail;refine (zu N2 _).mono ?_;rintro e W1 ⟨rfl,rfl⟩
   cases c
   ·go_wp2_with fail
    all_goals
     go_ret;exact ⟨ret_bool (by simp [eo,ev]),ba (bfl _ _) _⟩
   go_wp2_with fail
   all_goals (go_ret;refine ⟨ret_bool ?_,by first | exact ba (bfl _ _) _ | exact bc (ba (bfl _ _) _) hb⟩;first | rfl | (simp [eo,ev];done) | (simp [eo,ev];omega) | (rw [Bool.eq_iff_iff];simp [eo,ev];done) | (rw [Bool.eq_iff_iff];simp [eo,ev];omega) | (rw [Bool.eq_iff_iff];simp;omega))
theorem rightM_any (f : Ft) (w : World) (hs : f.nm.size ≤ maxLen) (ho : f.on.size ≤ maxLen) (hv : f.ov.size ≤ maxLen) : Calls Tryz.prog 105 #[ftv f] w fun e w' => e = .returned (.bool (ftr f)) ∧ Below w.heap.size w w':=by
 obtain ⟨s,o,v,k,d,x0,y0,z0,x1,y1,z1,n,dx,dy,dz⟩:=f
 by_cases h1 : k = 1
 ·subst h1;exact rightM_1 s o v 0 d x0 y0 z0 x1 y1 z1 n dx dy dz w hs ho hv
 by_cases h2 : k = 2
 ·subst h2;exact rightM_2 s o v 0 d x0 y0 z0 x1 y1 z1 n dx dy dz w hs ho hv
 by_cases h3 : k = 3
 ·subst h3;exact rightM_3 s o v 0 d x0 y0 z0 x1 y1 z1 n dx dy dz w hs ho hv
 exact rightM_4 s o v k d x0 y0 z0 x1 y1 z1 n dx dy dz w hs ho hv h1 h2 h3
end Go.Proofs.YtkiplmabjeadgaaGreat
