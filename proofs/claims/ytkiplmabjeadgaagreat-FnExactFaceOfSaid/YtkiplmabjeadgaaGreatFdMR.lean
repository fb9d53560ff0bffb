/- The model's looking for names. -/
import Derived.Test.YtkiplmabjeadgaaGreatFtMathR
namespace Go.Proofs.YtkiplmabjeadgaaGreat
set_option maxRecDepth 100000
set_option maxHeartbeats 16000000
open Go.ChangeShapes Go.WideShapes Go.ChangeAt Go.RowKit
set_option linter.unusedVariables false
set_option linter.unusedSimpArgs false
def findI (fs : List Ft) (s : ByteArray) : Int:=match findN fs s with | some k => (k : Int) | none => -1
theorem findN_of {fs : List Ft} {s : ByteArray} {i : Nat} {f : Ft} (h : fs[i]? = some f) (h1 : sEq f.nm s = true) (h2 : ∀ (j : Nat) (g : Ft),j < i → fs[j]? = some g → sEq g.nm s = false) : findN fs s = some i:=by
 unfold findN;rw [List.findIdx?_eq_some_iff_getElem];obtain ⟨hi,e⟩:=List.getElem?_eq_some_iff.1 h;refine ⟨hi,by rw [e];exact h1,fun j hj => ?_⟩;rw [h2 j _ hj (List.getElem?_eq_getElem (by omega))];simp
theorem findN_no {fs : List Ft} {s : ByteArray} (h2 : ∀ (j : Nat) (g : Ft),fs[j]? = some g → sEq g.nm s = false) : findN fs s = none:=by
 unfold findN;rw [List.findIdx?_eq_none_iff];intro f hf;obtain ⟨j,hj,rfl⟩:=List.getElem_of_mem hf;rw [h2 j _ (List.getElem?_eq_getElem hj)]
theorem findN_at {fs : List Ft} {s : ByteArray} {i : Nat} (h : findN fs s = some i) : ∃ f,fs[i]? = some f ∧ f.nm = s:=by
 unfold findN at h;rw [List.findIdx?_eq_some_iff_getElem] at h;obtain ⟨hi,h1,_⟩:=h;exact ⟨_,List.getElem?_eq_getElem hi,sEq_iff.1 h1⟩
theorem findI_some {fs : List Ft} {s : ByteArray} {k : Nat} (h : findN fs s = some k) : findI fs s = (k : Int):=by unfold findI;rw [h]
theorem findI_none {fs : List Ft} {s : ByteArray} (h : findN fs s = none) : findI fs s = -1:=by unfold findI;rw [h]
theorem find_any (u : Option Addr) (p po n cu : Nat) (fs : List Ft) (s : ByteArray) (w : World) (hl : fs.length = n) (hn : n ≤ 1048576) (hu : SlG ftc 15 w u p po fs) :
  Calls Tryz.prog 75 #[.slice u n cu,.string s] w fun e w' => e = .returned (.int .i64 (findI fs s)) ∧ w' = w:=by
 have HU:=hide hu;have HL:=hide hl;clear hu hl;go_enter Tryz.func75,Tryz.ntmps75;go_wp2
 go_loopw [5] (fun z W => ∃ i : Nat,z = .int .i64 (i : Int) ∧ i ≤ n ∧ (∀ j g,j < i → fs[j]? = some g → sEq g.nm s = false) ∧ W = w) (fun z _ => n - (intOf z).toNat)
 case atStart => exact ⟨0,rfl,Nat.zero_le _,fun j g hj => by omega,rfl⟩
 case round =>
  obtain ⟨i,rfl,hi,hno,hw⟩:=hrel;subst hw;have HN:=hide hno;clear hno
  by_cases h : i < n
  ·have i1 : (i : Int) < (n : Int):=by omega
   have i0 : (0 : Int) ≤ (i : Int):=Int.natCast_nonneg _;have iz : decide ((i : Int) < (n : Int)) = true:=dt i1;obtain ⟨f,hx⟩:=get_some (zu HL) h;obtain ⟨rfl,pw,hc⟩:=(zu HU).at hx;have k0:=hc 0 (.string f.nm) rfl;rw [Nat.add_zero] at k0;have HX:=hide hx;clear hx hc pw
   cases hq : sEq f.nm s
   ·have hq' : (f.nm.toList == s.toList) = false:=hq
    have HQ:=hide hq;clear hq;go_wp2_with fail;go_roundw
    case rel =>
     refine ⟨i + 1,by simp,h,?_,by first | rfl | trivial⟩;intro j g hj hg
     by_cases e : j = i
     ·subst e
      rw [zu HX] at hg
      cases hg
      exact zu HQ
     ·exact zu HN j g (by omega) hg
    case measure => simp only [intOf];omega
   ·have hq' : (f.nm.toList == s.toList) = true:=hq
    have HQ:=hide hq;clear hq;go_wp2_with fail;go_ret;exact ⟨ret_int (findI_some (findN_of (zu HX) (zu HQ) (zu HN))).symm,rfl⟩
  ·have i1 : ¬ (i : Int) < (n : Int):=by omega
   have iz : decide ((i : Int) < (n : Int)) = false:=df i1;go_wp2_with fail;go_ret;refine ⟨ret_int (findI_none (findN_no fun j g hg => zu HN j g ?_ hg)).symm,rfl⟩;have:=(List.getElem?_eq_some_iff.1 hg).1;rw [zu HL] at this;omega
theorem SlG.take {α : Type} {c : α → List Value} {k : Nat} {w : World} {u : Option Addr} {p po : Nat} {l : List α} (h : SlG c k w u p po l) (m : Nat) : SlG c k w u p po (l.take m):=by
 intro h0;have hl : l ≠ []:=by intro e;subst e;simp at h0
 obtain ⟨h1,h2,h3⟩:=h hl;refine ⟨h1,h2,fun i a hi => h3 i a ?_⟩;rw [List.getElem?_take] at hi
 split at hi
 ·exact hi
 ·cases hi
def wrgS (fs : List Ft) (f : Ft) : ByteArray:=(wrg fs f).getD ⟨#[]⟩
theorem emp_l (s : ByteArray) : emp s = (s.toList == []):=by
 unfold emp sEq;rw [show (⟨#[]⟩ : ByteArray).toList = [] by rw [ByteArray.toList_eq]]
theorem wrongM_any (u : Option Addr) (p po n cu : Nat) (fs : List Ft) (f : Ft) (w : World) (hl : fs.length = n) (hn : n ≤ 1048576) (hu : SlG ftc 15 w u p po fs) (h1 : emp f.on = true ∨ emp f.ov = true) :
  Calls Tryz.prog 106 #[.slice u n cu,ftv f] w fun e w' => e = .returned (.string (wrgS fs f)) ∧ Below w.heap.size w w':=by
 obtain ⟨s,o,v,k,d,x0,y0,z0,x1,y1,z1,ct,dx,dy,dz⟩:=f;have HU:=hide (hu.bel (ba (bfl w.heap.size w) (.cells #[.string s,.string o,.string v,.int .i64 k,.int .i64 d,.int .i64 x0,.int .i64 y0,.int .i64 z0,.int .i64 x1,.int .i64 y1,.int .i64 z1,.int .i64 ct,.int .i64 dx,.int .i64 dy,.int .i64 dz] 75)));have FO:=hide (fun W (h : SlG ftc 15 W u p po fs) => find_any u p po n cu fs o W hl hn h);have FV:=hide (fun W (h : SlG ftc 15 W u p po fs) => find_any u p po n cu fs v W hl hn h)
 have HB:=hide (ba (bfl w.heap.size w) (.cells #[.string s,.string o,.string v,.int .i64 k,.int .i64 d,.int .i64 x0,.int .i64 y0,.int .i64 z0,.int .i64 x1,.int .i64 y1,.int .i64 z1,.int .i64 ct,.int .i64 dx,.int .i64 dy,.int .i64 dz] 75));have HL:=hide hl;clear hu hl
 have hE : wrgS fs ⟨s,o,v,k,d,x0,y0,z0,x1,y1,z1,ct,dx,dy,dz⟩ = if emp o = false ∧ findN fs o = none then o else if emp v = false then (match findN fs v with | none => v | some q => if (fs.getD q ft0).kd = 3 ∨ emp (fs.getD q ft0).on = false then v else ⟨#[]⟩) else ⟨#[]⟩:=by
  unfold wrgS wrg;simp only
  split
  ·rfl
  ·split
   ·split
    ·rename_i h;rw [h];rfl
    ·rename_i h;rw [h];simp only;split <;> rfl
   ·rfl
 rw [hE];have tail : ∀ (rv : ByteArray),rv = (if emp v = false then (match findN fs v with | none => v | some q => if (fs.getD q ft0).kd = 3 ∨ emp (fs.getD q ft0).on = false then v else ⟨#[]⟩) else ⟨#[]⟩) → True:=fun _ _ => trivial
 clear tail hE
 by_cases eo : o.toList = []
 ·have eo' : (o.toList == []) = true:=by simp [eo]
  have c1 : emp o = true:=by rw [emp_l];exact eo'
  rw [if_neg (by rw [c1];simp)]
  by_cases ev : v.toList = []
  ·have ev' : (v.toList == []) = true:=by simp [ev]
   have c2 : emp v = true:=by rw [emp_l];exact ev'
   rw [if_neg (by rw [c2];simp)];clear c1 c2;unfold ftv;go_enter Tryz.func106,Tryz.ntmps106;go_wp2_with fail;go_ret;exact ⟨rfl,zu HB⟩
  ·have ev' : (v.toList == []) = false:=by simpa using ev
   have c2 : emp v = false:=by rw [emp_l];exact ev'
   rw [if_pos c2];clear c1 c2
   cases hf : findN fs v with
   | none =>
    rw [findI_none hf] at FV;clear hf;unfold ftv;go_enter Tryz.func106,Tryz.ntmps106;go_wp2_with fail;refine (zu FV _ (zu HU)).mono ?_;rintro e W1 ⟨rfl,rfl⟩;go_wp2_with fail;go_ret;exact ⟨rfl,zu HB⟩
   | some q =>
    rw [findI_some hf] at FV;obtain ⟨g,hg,_⟩:=findN_at hf;have hq : (q : Int) < (n : Int):=by have:=findN_lt hf;have:=zu HL;omega
    have hq0 : ¬ (q : Int) < 0:=by omega
    have hqz : decide ((q : Int) < 0) = false:=df hq0;have hqn : (0 : Int) ≤ (q : Int):=by omega
    simp only [List.getD_eq_getElem?_getD,hg,Option.getD_some];obtain ⟨rfl,pw,hc⟩:=(zu HU).at hg;have k1:=hc 1 (.string g.on) rfl;have k3:=hc 3 (.int .i64 g.kd) rfl;clear hc hf hg
    by_cases q3 : g.kd = 3
    ·rw [if_pos (.inl q3)]
     have q3' : (g.kd == 3) = true:=by simp [q3]
     clear q3;unfold ftv;go_enter Tryz.func106,Tryz.ntmps106;go_wp2_with fail;refine (zu FV _ (zu HU)).mono ?_;rintro e W1 ⟨rfl,rfl⟩;go_wp2_with fail;go_ret;exact ⟨rfl,zu HB⟩
    ·have q3' : (g.kd == 3) = false:=by simpa using q3
     by_cases q4 : g.on.toList = []
     ·have q4' : (g.on.toList == []) = true:=by simp [q4]
      rw [if_neg (by rw [emp_l,q4'];simp [q3])];unfold ftv;go_enter Tryz.func106,Tryz.ntmps106;go_wp2_with fail;refine (zu FV _ (zu HU)).mono ?_;rintro e W1 ⟨rfl,rfl⟩;go_wp2_with fail;go_ret;exact ⟨rfl,zu HB⟩
     ·have q4' : (g.on.toList == []) = false:=by simpa using q4
      rw [if_pos (by rw [emp_l,q4'];simp)];unfold ftv;go_enter Tryz.func106,Tryz.ntmps106;go_wp2_with fail;refine (zu FV _ (zu HU)).mono ?_;rintro e W1 ⟨rfl,rfl⟩;go_wp2_with fail;go_ret;exact ⟨rfl,zu HB⟩
 ·have eo' : (o.toList == []) = false:=by simpa using eo
  have c1 : emp o = false:=by rw [emp_l];exact eo'
  have c2 : emp v = true:=by
   rcases h1 with h | h
   ·simp only at h;rw [c1] at h;cases h
   ·exact h
  have ev' : (v.toList == []) = true:=by rw [← emp_l];exact c2
  have ev : v.toList = []:=by simpa using ev'
  clear h1
  cases hf : findN fs o with
  | none =>
   rw [if_pos ⟨c1,rfl⟩];rw [findI_none hf] at FO;clear hf c1 c2;unfold ftv;go_enter Tryz.func106,Tryz.ntmps106;go_wp2_with fail;refine (zu FO _ (zu HU)).mono ?_;rintro e W1 ⟨rfl,rfl⟩;go_wp2_with fail;go_ret;exact ⟨rfl,zu HB⟩
  | some q =>
   rw [if_neg (by simp),if_neg (by rw [c2];simp)];rw [findI_some hf] at FO;have hq0 : ¬ (q : Int) < 0:=by omega
   have hqz : decide ((q : Int) < 0) = false:=df hq0;clear hf c1 c2;unfold ftv;go_enter Tryz.func106,Tryz.ntmps106;go_wp2_with fail;refine (zu FO _ (zu HU)).mono ?_;rintro e W1 ⟨rfl,rfl⟩;go_wp2_with fail;go_ret;exact ⟨rfl,zu HB⟩
def nats (l : List Nat) : List Int:=l.map fun k : Nat => (k : Int)
theorem info3 : (Tryz.prog.info? 3).map (fun i => (i.zero,i.size,i.bytes)) = some (some (.int .i64 0),1,8):=by kernel_rfl
theorem keepN {B : Nat} {w w' : World} (hb : Below B w w') {b o : Nat} {v : Value} (h : w.cell? ⟨b,o,none⟩ = some v) (hB : b < B) : w'.cell? ⟨b,o,none⟩ = some v:=(hb.cell (p:=⟨b,o,none⟩) hB).trans h
theorem namesM_any (u : Option Addr) (p po n cu : Nat) (fs : List Ft) (f : Ft) (w : World) (hl : fs.length = n) (hn : n ≤ 1048576) (hu : SlG ftc 15 w u p po fs) (h1 : emp f.on = true ∨ emp f.ov = true) (h2 : wrg fs f = none) :
  Calls Tryz.prog 107 #[.slice u n cu,ftv f] w fun e w' => ∃ v,e = .returned v ∧ Row w' (w.heap.size + 1) 3 1 v (nmd fs f).length (nats (nmd fs f)) ∧ Below w.heap.size w w':=by
 obtain ⟨s,o,v,k,d,x0,y0,z0,x1,y1,z1,ct,dx,dy,dz⟩:=f;obtain ⟨i0,hi,hz0,hz1,hz2⟩:=info_parts info3;have HU:=hide ((hu.bel (ba (bfl w.heap.size w) (.cells #[.string s,.string o,.string v,.int .i64 k,.int .i64 d,.int .i64 x0,.int .i64 y0,.int .i64 z0,.int .i64 x1,.int .i64 y1,.int .i64 z1,.int .i64 ct,.int .i64 dx,.int .i64 dy,.int .i64 dz] 75))).bel (ba (bfl _ _) (.cells #[] 3)));have FO:=hide (fun W (h : SlG ftc 15 W u p po fs) => find_any u p po n cu fs o W hl hn h)
 have FV:=hide (fun W (h : SlG ftc 15 W u p po fs) => find_any u p po n cu fs v W hl hn h);have HB:=hide (ba (ba (bfl w.heap.size w) (.cells #[.string s,.string o,.string v,.int .i64 k,.int .i64 d,.int .i64 x0,.int .i64 y0,.int .i64 z0,.int .i64 x1,.int .i64 y1,.int .i64 z1,.int .i64 ct,.int .i64 dx,.int .i64 dy,.int .i64 dz] 75)) (.cells #[] 3))
 have HR:=hide (row_made (w.alloc (.cells #[.string s,.string o,.string v,.int .i64 k,.int .i64 d,.int .i64 x0,.int .i64 y0,.int .i64 z0,.int .i64 x1,.int .i64 y1,.int .i64 z1,.int .i64 ct,.int .i64 dx,.int .i64 dy,.int .i64 dz] 75)) 3 (w.heap.size + 1) 1 (by simp) _ rfl);simp only [World.size_alloc] at HR;have HL:=hide hl;clear hu hl;unfold wrg at h2;unfold nmd;simp only at h1 h2 ⊢
 by_cases eo : o.toList = []
 ·have eo' : (o.toList == []) = true:=by simp [eo]
  have c1 : emp o = true:=by rw [emp_l];exact eo'
  rw [if_pos c1]
  by_cases ev : v.toList = []
  ·have ev' : (v.toList == []) = true:=by simp [ev]
   have c2 : emp v = true:=by rw [emp_l];exact ev'
   rw [if_pos c2];clear c1 c2 h1 h2;unfold ftv;go_enter Tryz.func107,Tryz.ntmps107;go_wp2_with fail;go_ret;exact ⟨_,rfl,zu HR,zu HB⟩
  ·have ev' : (v.toList == []) = false:=by simpa using ev
   have c2 : emp v = false:=by rw [emp_l];exact ev'
   rw [if_neg (by rw [c2];simp)]
   cases hf : findN fs v with
   | none => rw [c1,c2,hf] at h2;simp at h2
   | some q =>
    rw [findI_some hf] at FV;clear c1 c2 h1 h2;unfold ftv;go_enter Tryz.func107,Tryz.ntmps107;go_wp2_with fail;refine (zu FV _ (zu HU)).mono ?_;rintro e W1 ⟨rfl,rfl⟩
    go_wp2_with (at_builtin;refine zu ?_)
    refine hide ?_;refine wpList_append_own _ rfl _ _ 94 rfl (w.heap.size + 1) 3 i0 _ 1 8 Tryz.underlying94 hi hz0 hz1 hz2 rfl (by decide) _ _ _ rfl ((zu HR).alloc _) _ 1 1 ([(q : Int)].map (Value.int .i64)) rfl rfl (by first | exact news_cells _ _ (by simp) | exact news_drew _ _ (by simp)) ints_one (by unfold maxLen;omega) (by omega) (by simp) ?_;intro v' w1 hown' hgrow _;have R:=hide (own_more (news:=[(q : Int)]) (ba (bfl _ _) _ |>.mono (by simp)) (by simp) (zu HR) hown' hgrow);clear hown' hgrow;go_wp2_with fail;go_ret;exact ⟨_,rfl,(zu R).1,(zu HB).trans ((zu R).2.mono (by omega))⟩
 ·have eo' : (o.toList == []) = false:=by simpa using eo
  have c1 : emp o = false:=by rw [emp_l];exact eo'
  rw [if_neg (by rw [c1];simp)]
  have c2 : emp v = true:=by
   rcases h1 with h | h
   ·rw [c1] at h;cases h
   ·exact h
  have ev' : (v.toList == []) = true:=by rw [← emp_l];exact c2
  have ev : v.toList = []:=by simpa using ev'
  rw [if_pos c2]
  cases hf : findN fs o with
  | none => rw [c1,c2,hf] at h2;simp at h2
  | some q =>
   rw [findI_some hf] at FO;clear c1 c2 h1 h2;unfold ftv;go_enter Tryz.func107,Tryz.ntmps107;go_wp2_with fail;refine (zu FO _ (zu HU)).mono ?_;rintro e W1 ⟨rfl,rfl⟩
   go_wp2_with (at_builtin;refine zu ?_)
   refine hide ?_;refine wpList_append_own _ rfl _ _ 94 rfl (w.heap.size + 1) 3 i0 _ 1 8 Tryz.underlying94 hi hz0 hz1 hz2 rfl (by decide) _ _ _ rfl ((zu HR).alloc _) _ 1 1 ([(q : Int)].map (Value.int .i64)) rfl rfl (by first | exact news_cells _ _ (by simp) | exact news_drew _ _ (by simp)) ints_one (by unfold maxLen;omega) (by omega) (by simp) ?_;intro v' w1 hown' hgrow _;have R:=hide (own_more (news:=[(q : Int)]) (ba (bfl _ _) _ |>.mono (by simp)) (by simp) (zu HR) hown' hgrow);have y2:=keepN (zu R).2 (b:=w.heap.size) (o:=2) (v:=.string v) (by simp [go_sem]) (by omega)
   clear hown' hgrow;go_wp2_with fail;go_ret;exact ⟨_,rfl,(zu R).1,(zu HB).trans ((zu R).2.mono (by omega))⟩
end Go.Proofs.YtkiplmabjeadgaaGreat
