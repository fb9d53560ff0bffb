/- The places of a box, as an iterator. -/
import Derived.Test.YtkiplmabjeadgaaGreatBdD5R
import Derived.Test.YtkiplmabjeadgaaGreatStOpenR
import Derived.Sort.LoopGhostIn
namespace Go.Proofs.YtkiplmabjeadgaaGreat
set_option maxRecDepth 100000
set_option maxHeartbeats 16000000
open Go.ChangeShapes Go.WideShapes Go.ChangeAt Go.RowKit Go.Shelf
attribute [local go_sem] Oper.semAt_some
set_option linter.unusedVariables false
set_option linter.unusedSimpArgs false
def plk (x0 nx y0 ny z0 k : Nat) : Array Value:=#[plv ((x0 + k % nx : Nat) : Int) ((y0 + k / nx % ny : Nat) : Int) ((z0 + k / (nx * ny) : Nat) : Int)]
theorem plk_at {x0 nx y0 ny z0 a b c : Nat} (ha : a < nx) (hb : b < ny) : plk x0 nx y0 ny z0 ((c * ny + b) * nx + a) = #[plv ((x0 + a : Nat) : Int) ((y0 + b : Nat) : Int) ((z0 + c : Nat) : Int)]:=by
 unfold plk;have hx : 0 < nx:=by omega
 have hy : 0 < ny:=by omega
 have e1 : ((c * ny + b) * nx + a) % nx = a:=by rw [Nat.mul_add_mod' ,Nat.mod_eq_of_lt ha]
 have e2 : ((c * ny + b) * nx + a) / nx = c * ny + b:=by rw [Nat.add_comm,Nat.add_mul_div_right _ _ hx,Nat.div_eq_of_lt ha,Nat.zero_add]
 have e3 : (c * ny + b) % ny = b:=by rw [Nat.mul_add_mod',Nat.mod_eq_of_lt hb]
 have e4 : ((c * ny + b) * nx + a) / (nx * ny) = c:=by rw [← Nat.div_div_eq_div_mul,e2,Nat.add_comm,Nat.add_mul_div_right _ _ hy,Nat.div_eq_of_lt hb,Nat.zero_add]
 rw [e1,e2,e3,e4]
theorem plk_lt {nx ny nz a b c : Nat} (ha : a < nx) (hb : b < ny) (hc : c < nz) : (c * ny + b) * nx + a < nz * ny * nx:=by
 have h1 : c * ny + b < nz * ny:=by
  have : (c + 1) * ny ≤ nz * ny:=Nat.mul_le_mul_right _ hc;rw [Nat.add_mul,Nat.one_mul] at this;omega
 have : (c * ny + b + 1) * nx ≤ nz * ny * nx:=Nat.mul_le_mul_right _ h1;rw [Nat.add_mul,Nat.one_mul] at this;omega
theorem plX (x0 nx x1_ y0 ny y1_ z0 nz z1_ Bf : Nat) (R : Nat → Prop) (w : World) (ex : x1_ = x0 + nx) (ey : y1_ = y0 + ny) (ez : z1_ = z0 + nz) (hx : x1_ ≤ 24) (hy : y1_ ≤ 24) (hz : z1_ ≤ 24) (hB : R Bf) (hv : vb w Bf 41 [.int .i64 (x0 : Int),.int .i64 (y0 : Int),.int .i64 (z0 : Int),.int .i64 (x1_ : Int),.int .i64 (y1_ : Int),.int .i64 (z1_ : Int)]) :
  SeqX Tryz.prog 131 #[.pointer (some ⟨Bf,0,none⟩)] (plk x0 nx y0 ny z0) (nz * ny * nx) R w:=by
 intro l J Jx W0 hW0 hJ hJx hY h0;have hv0 : vb W0 Bf 41 _:=hv.bel hW0;have HEE:=hide (And.intro ex (And.intro ey ez));clear ex ey ez;have HY:=hide hY;have HJ0:=hide h0;have HV0:=hide hv0;have k2:=hv0.cell (m:=2) rfl;have k5:=hv0.cell (m:=5) rfl;clear hv hv0 hW0 hJ hJx hY h0;refine callsIn_of_wp Tryz.func131 rfl trivial ?_ rfl;simp only [Tryz.ntmps131,List.size_toArray,List.length_cons,List.length_nil,Nat.reduceAdd,Nat.reduceSub,Array.replicate_succ,Array.replicate_zero,List.push_toArray,List.append_toArray,List.nil_append,List.cons_append];gi_wp2;clear k2 k5
 gi_loopw [3] (fun s X => ∃ c zq : Nat,s = .int .i64 (zq : Int) ∧ zq = z0 + c ∧ c ≤ nz ∧ J (fun _ => False) (c * ny * nx) X ∧ vb X Bf 41 [.int .i64 (x0 : Int),.int .i64 (y0 : Int),.int .i64 (z0 : Int),.int .i64 (x1_ : Int),.int .i64 (y1_ : Int),.int .i64 (z1_ : Int)]) (fun s _ => z1_ - (intOf s).toNat)
 case atStart => exact ⟨0,_,rfl,rfl,Nat.zero_le _,by rw [Nat.zero_mul,Nat.zero_mul];exact zu HJ0,zu HV0⟩
 case round =>
  obtain ⟨c,zq,rfl,hzq,hc,hj,hb⟩:=hrel;have HZQ:=hide hzq;clear hzq;have HJ:=hide hj;have HB:=hide hb;have q5:=hb.cell (m:=5) rfl;have q1:=hb.cell (m:=1) rfl;clear hj hb
  by_cases hcz : c < nz
  ·have z2d : zq < z1_:=by have he:=zu HEE;have h1:=zu HZQ;first | omega | (have h2:=zu HYQ;first | omega | (have h3:=zu HXQ;omega))
   have z1d : decide ((zq : Int) < (z1_ : Int)) = true:=dt (by omega);gi_wp2;clear q5 q1
   gi_loopw [4] (fun s X => ∃ b yq : Nat,s = .int .i64 (yq : Int) ∧ yq = y0 + b ∧ b ≤ ny ∧ J (fun _ => False) ((c * ny + b) * nx) X ∧ vb X Bf 41 [.int .i64 (x0 : Int),.int .i64 (y0 : Int),.int .i64 (z0 : Int),.int .i64 (x1_ : Int),.int .i64 (y1_ : Int),.int .i64 (z1_ : Int)]) (fun s _ => y1_ - (intOf s).toNat)
   case atStart => exact ⟨0,_,rfl,rfl,Nat.zero_le _,zu HJ,zu HB⟩
   case round =>
    obtain ⟨b,yq,rfl,hyq,hbn,hj,hb⟩:=hrel;have HYQ:=hide hyq;clear hyq;have HJ2:=hide hj;have HB2:=hide hb;have q4:=hb.cell (m:=4) rfl;have q0:=hb.cell (m:=0) rfl;clear hj hb
    by_cases hby : b < ny
    ·have y2d : yq < y1_:=by have he:=zu HEE;have h1:=zu HZQ;first | omega | (have h2:=zu HYQ;first | omega | (have h3:=zu HXQ;omega))
     have y1d : decide ((yq : Int) < (y1_ : Int)) = true:=dt (by omega);gi_wp2;clear q4 q0
     gi_loopw [5] (fun s X => ∃ a xq : Nat,s = .int .i64 (xq : Int) ∧ xq = x0 + a ∧ a ≤ nx ∧ J (fun _ => False) ((c * ny + b) * nx + a) X ∧ vb X Bf 41 [.int .i64 (x0 : Int),.int .i64 (y0 : Int),.int .i64 (z0 : Int),.int .i64 (x1_ : Int),.int .i64 (y1_ : Int),.int .i64 (z1_ : Int)]) (fun s _ => x1_ - (intOf s).toNat)
     case atStart => exact ⟨0,_,rfl,rfl,Nat.zero_le _,zu HJ2,zu HB2⟩
     case round =>
      obtain ⟨a,xq,rfl,hxq,han,hj,hb⟩:=hrel;have HXQ:=hide hxq;clear hxq;have HJ3:=hide hj;have HB3:=hide hb;have q3:=hb.cell (m:=3) rfl;clear hj hb
      by_cases hax : a < nx
      ·have x2d : xq < x1_:=by have he:=zu HEE;have h1:=zu HZQ;first | omega | (have h2:=zu HYQ;first | omega | (have h3:=zu HXQ;omega))
       have x1d : decide ((xq : Int) < (x1_ : Int)) = true:=dt (by omega);have wx1 : IntKind.i64.wrap ((xq : Int) + 1) = ((xq + 1 : Nat) : Int):=(wrap_i (by omega) (by have he:=zu HEE;have h1:=zu HZQ;first | omega | (have h2:=zu HYQ;first | omega | (have h3:=zu HXQ;omega)))).trans (by omega);obtain ⟨fn,tmps,assign,body,hy',hR⟩:=zu HY (fun _ => False) ((c * ny + b) * nx + a) _ (plk_lt hax hby hcz) (fun _ h => h.elim) (zu HJ3);rw [plk_at hax hby] at hy';unfold plv at hy';rw [← zu HXQ,← zu HYQ,← zu HZQ] at hy';gi_wp2;refine ⟨rfl,hR.mono ?_⟩
       rintro e W3 (⟨rfl,hJ4,hk4⟩ | ⟨rfl,hJx4,_⟩)
       ·have HJ4:=hide hJ4
        have HK4:=hide (hk4.vb (zu HB3) (.inl hB));clear hJ4 hk4 hR hy' q3;gi_wp2;go_roundw
        case rel => exact ⟨a + 1,xq + 1,rfl,by have:=zu HXQ;omega,by omega,zu HJ4,zu HK4⟩
        case measure => have he:=zu HEE;have:=zu HXQ;simp only [intOf];omega
       ·clear hR hy' q3
        have HX4:=hide hJx4;clear hJx4;gi_wp2;refine bodyPost_ret (results_none rfl _ _ _) rfl ?_;exact ⟨⟨_,rfl⟩,fun _ => False,.inr ⟨_,plk_lt hax hby hcz,zu HX4⟩⟩
      ·have x2d : ¬ xq < x1_:=by have he:=zu HEE;have h1:=zu HZQ;first | omega | (have h2:=zu HYQ;first | omega | (have h3:=zu HXQ;omega))
       have x1d : decide ((xq : Int) < (x1_ : Int)) = false:=df (by omega);have wy1 : IntKind.i64.wrap ((yq : Int) + 1) = ((yq + 1 : Nat) : Int):=(wrap_i (by omega) (by have he:=zu HEE;have h1:=zu HZQ;first | omega | (have h2:=zu HYQ;first | omega | (have h3:=zu HXQ;omega)))).trans (by omega);obtain rfl : a = nx:=by omega
       gi_wp2;go_roundw
       case rel => exact ⟨b + 1,yq + 1,rfl,by have:=zu HYQ;omega,by omega,by rw [← Nat.add_assoc,Nat.add_mul _ 1,Nat.one_mul];exact zu HJ3,zu HB3⟩
       case measure => have he:=zu HEE;have:=zu HYQ;simp only [intOf];omega
    ·have y2d : ¬ yq < y1_:=by have he:=zu HEE;have h1:=zu HZQ;first | omega | (have h2:=zu HYQ;first | omega | (have h3:=zu HXQ;omega))
     have y1d : decide ((yq : Int) < (y1_ : Int)) = false:=df (by omega);have wz1 : IntKind.i64.wrap ((zq : Int) + 1) = ((zq + 1 : Nat) : Int):=(wrap_i (by omega) (by have he:=zu HEE;have h1:=zu HZQ;first | omega | (have h2:=zu HYQ;first | omega | (have h3:=zu HXQ;omega)))).trans (by omega);obtain rfl : b = ny:=by omega
     gi_wp2;go_roundw
     case rel => exact ⟨c + 1,zq + 1,rfl,by have:=zu HZQ;omega,by omega,by rw [Nat.add_mul c 1,Nat.one_mul];exact zu HJ2,zu HB2⟩
     case measure => have he:=zu HEE;have:=zu HZQ;simp only [intOf];omega
  ·have z2d : ¬ zq < z1_:=by have he:=zu HEE;have h1:=zu HZQ;first | omega | (have h2:=zu HYQ;first | omega | (have h3:=zu HXQ;omega))
   have z1d : decide ((zq : Int) < (z1_ : Int)) = false:=df (by omega);obtain rfl : c = nz:=by omega
   gi_wp2
   go_end0
   exact ⟨⟨_,rfl⟩,fun _ => False,.inl (zu HJ)⟩
end Go.Proofs.YtkiplmabjeadgaaGreat
