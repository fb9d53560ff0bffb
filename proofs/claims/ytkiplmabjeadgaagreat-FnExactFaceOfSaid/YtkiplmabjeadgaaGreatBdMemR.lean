/- The model's cells are made. -/
import Derived.Test.YtkiplmabjeadgaaGreatBdSqR
import Derived.Test.YtkiplmabjeadgaaGreatBdD5R
import Derived.Test.YtkiplmabjeadgaaGreatNmAtR
import Derived.Deep.LoopGhost
import Derived.Test.YtkiplmabjeadgaaGreatBpR3R
import Derived.Test.YtkiplmabjeadgaaGreatFdMR
namespace Go.Proofs.YtkiplmabjeadgaaGreat
set_option maxRecDepth 100000
set_option maxHeartbeats 16000000
open Go.ChangeShapes Go.WideShapes Go.ChangeAt Go.RowKit
set_option linter.unusedVariables false
set_option linter.unusedSimpArgs false
def fnL (n : Nat) (f : Nat → Value) : List Value:=(List.range n).map f
theorem fnL_len (n : Nat) (f : Nat → Value) : (fnL n f).length = n:=by simp [fnL]
theorem fnL_at {n k : Nat} (f : Nat → Value) (h : k < n) : (fnL n f)[k]? = some (f k):=by simp [fnL,h]
theorem fnL_set (n k : Nat) (f : Nat → Value) (v : Value) : (fnL n f).set k v = fnL n (fun j => if j = k then v else f j):=by
 apply List.ext_getElem?;intro j;rw [List.getElem?_set,fnL_len]
 by_cases hj : j < n
 ·rw [fnL_at f hj,fnL_at (fun j => if j = k then v else f j) hj]
  by_cases e : k = j
  ·subst e;simp [hj]
  ·rw [if_neg e,if_neg (fun q => e q.symm)]
 ·rw [List.getElem?_eq_none (l:=fnL n f) (by rw [fnL_len];omega),List.getElem?_eq_none (l:=fnL n fun j => if j = k then v else f j) (by rw [fnL_len];omega)]
  by_cases e : k = j
  ·subst e;simp [hj]
  ·rw [if_neg e]
theorem fnL_rep (n : Nat) (v : Value) : List.replicate n v = fnL n (fun _ => v):=by
 apply List.ext_getElem?;intro j
 by_cases hj : j < n
 ·rw [fnL_at _ hj,List.getElem?_replicate,if_pos hj]
 ·rw [List.getElem?_eq_none (by simp;omega),List.getElem?_eq_none (by rw [fnL_len];omega)]
theorem fnL_ext {n : Nat} {f g : Nat → Value} (h : ∀ k,k < n → f k = g k) : fnL n f = fnL n g:=by
 unfold fnL;exact List.map_congr_left fun k hk => h k (List.mem_range.1 hk)
structure CsM (w : World) (gf gb : Nat) (c : Cs) : Prop where
 f : vb w gf 4 (fnL 13824 fun k => .bool (c.full k))
 b : vb w gb 3 (fnL 13824 fun k => .int .i64 (c.by_ k : Int))
theorem CsM.bel {w w' : World} {gf gb : Nat} {c : Cs} (h : CsM w gf gb c) (hb : Below w.heap.size w w') : CsM w' gf gb c:=⟨h.f.bel hb,h.b.bel hb⟩
theorem CsM.cf {w : World} {gf gb : Nat} {c : Cs} (h : CsM w gf gb c) {k : Nat} (hk : k < 13824) : w.cell? ⟨gf,k,none⟩ = some (.bool (c.full k)):=h.f.cell (fnL_at _ hk)
theorem CsM.cb {w : World} {gf gb : Nat} {c : Cs} (h : CsM w gf gb c) {k : Nat} (hk : k < 13824) : w.cell? ⟨gb,k,none⟩ = some (.int .i64 (c.by_ k : Int)):=h.b.cell (fnL_at _ hk)
theorem CsM.put {w : World} {gf gb : Nat} {c d : Cs} (h : CsM w gf gb c) (hne : gf ≠ gb) (k : Nat) (v : Bool) (n : Nat) (hf : d.full = fun j => if j = k then v else c.full j) (hb : d.by_ = fun j => if j = k then n else c.by_ j) :
  CsM ((w.setCell ⟨gf,k,none⟩ (.bool v)).setCell ⟨gb,k,none⟩ (.int .i64 (n : Int))) gf gb d:=by
 refine ⟨?_,?_⟩
 ·have:=(h.f.set k (.bool v)).ne (g':=gb) (o:=k) (x:=.int .i64 (n : Int)) hne
  rw [fnL_set] at this;rw [hf];refine cast ?_ this
  congr 2
  funext j
  show _ = Value.bool (if j = k then v else c.full j)
  split <;> rfl
 ·have:=(h.b.ne (g':=gf) (o:=k) (x:=.bool v) (fun e => hne e.symm)).set k (.int .i64 (n : Int))
  rw [fnL_set] at this;rw [hb];refine cast ?_ this
  congr 2
  funext j
  show _ = Value.int .i64 (((if j = k then n else c.by_ j : Nat)) : Int)
  split <;> rfl
structure Tw (g h : Nat) (w w' : World) : Prop where
 os : w'.os = w.os
 tape : w'.tape = w.tape
 output : w'.output = w.output
 size : w.heap.size ≤ w'.heap.size
 block : ∀ k,k < w.heap.size → k ≠ g → k ≠ h → w'.heap[k]? = w.heap[k]?
theorem Tw.refl (g h : Nat) (w : World) : Tw g h w w:=⟨rfl,rfl,rfl,Nat.le_refl _,fun _ _ _ _ => rfl⟩
theorem Tw.trans {g h : Nat} {a b c : World} (x : Tw g h a b) (y : Tw g h b c) : Tw g h a c :=
  ⟨y.os.trans x.os,y.tape.trans x.tape,y.output.trans x.output,Nat.le_trans x.size y.size,fun k hk h1 h2 => (y.block k (Nat.lt_of_lt_of_le hk x.size) h1 h2).trans (x.block k hk h1 h2)⟩
theorem Tw.of_bel {g h : Nat} {w w' : World} (hb : Below w.heap.size w w') : Tw g h w w':=⟨hb.os,hb.tape,hb.output,hb.size,fun k hk _ _ => hb.block k hk⟩
theorem Tw.bel {g h : Nat} {a w w' : World} (x : Tw g h a w) (hb : Below w.heap.size w w') : Tw g h a w':=x.trans (Tw.of_bel hb)
theorem Tw.set {g h b : Nat} {a w : World} (x : Tw g h a w) (hb : b = g ∨ b = h) (o : Nat) (v : Value) : Tw g h a (w.setCell ⟨b,o,none⟩ v) :=
  ⟨x.os,x.tape,x.output,by simpa [World.setCell] using x.size,fun k hk h1 h2 => (Below.heap_setCell _ _ _ _ (by rcases hb with rfl | rfl;exact h1;exact h2)).trans (x.block k hk h1 h2)⟩
theorem Tw.vb {g h : Nat} {w w' : World} {b t : Nat} {L : List Value} (x : Tw g h w w') (hv : vb w b t L) (h1 : b ≠ g) (h2 : b ≠ h) : vb w' b t L:=(x.block b hv.lt h1 h2).trans hv
theorem Tw.below {g h B : Nat} {w w' : World} (x : Tw g h w w') (hg : B ≤ g) (hh : B ≤ h) (hs : B ≤ w.heap.size) : Below B w w':=⟨x.os,x.tape,x.output,x.size,fun k hk => x.block k (by omega) (by omega) (by omega)⟩
theorem flat_oneG {α : Type} (c : α → List Value) (x : α) : flatG c [x] = c x:=by simp [flatG]
theorem own_app {α : Type} {c : α → List Value} {w W2 w1 : World} {B t k n : Nat} {v v' : Value} {l : List α} {x : α} (hb : Below B w W2) (hB : B ≤ W2.heap.size) (h : w.ownsRow B t k v n (flatG c l)) (h' : w1.ownsRow B t k v' (n + 1) (flatG c l ++ c x)) (hg : W2.grownBy w1 v.ownBlock) :
  w1.ownsRow B t k v' (n + 1) (flatG c (l ++ [x])) ∧ Below B w w1:=by
 refine ⟨?_,hb.grown hg hB (fun j hj => (own_ge h j hj).1)⟩;rw [flatG_append,flat_oneG];exact h'
theorem it_lt {nm : List (List Nat)} (ho : Oneful nm) {i : Nat} (hi : i < nm.length) : ∀ (t x : Nat),it (sc nm) t i = some x → x < nm.length:=by
 intro t
 cases t with
 | zero => intro x h;cases h;exact hi
 | succ t =>
  intro x h;rw [it] at h
  cases e : it (sc nm) t i with
  | none => rw [e] at h;cases h
  | some a => rw [e] at h;exact (sc_lt ho h).2
theorem path_mem {s : Nat → Option Nat} {L i x : Nat} (h : x ∈ path s L i) : ∃ t,t < L ∧ x = (it s t i).getD 0:=by
 induction L with
 | zero => simp [path] at h
 | succ L ih =>
  rcases List.mem_append.1 h with g | g
  ·obtain ⟨t,h1,h2⟩:=ih g
   exact ⟨t,by omega,h2⟩
  ·simp only [List.mem_singleton] at g
   exact ⟨L,by omega,g⟩
theorem Cyc.lt {nm : List (List Nat)} (ho : Oneful nm) {i : Nat} (hi : i < nm.length) {c : List Nat} (h : Cyc (sc nm) i c) : ∀ x ∈ c,x < nm.length:=by
 rcases h with ⟨L,f,rfl⟩ | ⟨_,rfl⟩
 ·intro x hx
  obtain ⟨t,ht,rfl⟩:=path_mem hx;obtain ⟨p,hp,_⟩:=f.rest ht;rw [hp];exact it_lt ho hi t p hp
 ·simp
theorem First.inj {s : Nat → Option Nat} {i L : Nat} (f : First s i i L) : ∀ (a b : Nat),a < b → b < L → it s a i ≠ it s b i:=by
 intro a b hab hb e;obtain ⟨p,hp,fp⟩:=f.rest (show a < L by omega);obtain ⟨q,hq,fq⟩:=f.rest hb;rw [hp,hq] at e
 cases e
 have:=fp.uniq fq;omega
theorem Cyc.len {nm : List (List Nat)} (ho : Oneful nm) {i : Nat} (hi : i < nm.length) {c : List Nat} (h : Cyc (sc nm) i c) : c.length ≤ nm.length:=by
 rcases h with ⟨L,f,rfl⟩ | ⟨_,rfl⟩
 ·rw [path_len]
  rcases Nat.lt_or_ge nm.length L with g | g
  ·exfalso
   obtain ⟨a,b,h1,h2,h3⟩:=pigeon nm.length (fun t => (it (sc nm) t i).getD 0) (by
    intro t ht;obtain ⟨p,hp,_⟩:=f.rest (show t < L by omega);simp only [hp,Option.getD_some]
    exact it_lt ho hi t p hp)
   obtain ⟨p,hp,_⟩:=f.rest (show a < L by omega);obtain ⟨q,hq,_⟩:=f.rest (show b < L by omega);simp only [hp,hq,Option.getD_some] at h3;exact f.inj a b h1 (by omega) (by rw [hp,hq,h3])
  ·exact g
 ·simp
theorem Bst.lt {nm : List (List Nat)} {k : Nat} {b : List Nat} (h : Bst (sc nm) k b) (ho : Oneful nm) (hk : k ≤ nm.length) : ∀ x ∈ b,x < nm.length:=by
 induction k generalizing b with
 | zero => rw [show b = [] from h];simp
 | succ k ih =>
  obtain ⟨b0,c,h1,h2,rfl⟩:=h;unfold better
  split
  ·exact h2.lt ho (by omega)
  ·exact ih h1 (by omega)
theorem Bst.len {nm : List (List Nat)} {k : Nat} {b : List Nat} (h : Bst (sc nm) k b) (ho : Oneful nm) (hk : k ≤ nm.length) : b.length ≤ nm.length:=by
 induction k generalizing b with
 | zero => rw [show b = [] from h];simp
 | succ k ih =>
  obtain ⟨b0,c,h1,h2,rfl⟩:=h;unfold better
  split
  ·exact h2.len ho (by omega)
  ·exact ih h1 (by omega)
theorem find_first {α : Type} {l : List α} {P : α → Bool} {i : Nat} {a : α} (h : l[i]? = some a) (ha : P a = true) (hb : ∀ (j : Nat) (b : α),j < i → l[j]? = some b → P b = false) : l.find? P = some a:=by
 induction l generalizing i with
 | nil => cases h
 | cons x l ih =>
  cases i with
  | zero => simp only [List.getElem?_cons_zero,Option.some.injEq] at h;subst h;simp [ha]
  | succ i =>
   have hx:=hb 0 x (by omega) rfl;rw [List.find?_cons,hx];exact ih (i:=i) (by simpa using h) (fun j b hj hl => hb (j + 1) b (by omega) (by simpa using hl))
theorem find_none {α : Type} {l : List α} {P : α → Bool} (hb : ∀ (j : Nat) (b : α),l[j]? = some b → P b = false) : l.find? P = none:=by
 rw [List.find?_eq_none];intro x hx;obtain ⟨j,hj,rfl⟩:=List.getElem_of_mem hx;rw [hb j _ (List.getElem?_eq_getElem hj)];simp
theorem findN_take {fs : List Ft} {i : Nat} {s : ByteArray} : findN (fs.take i) s = none ↔ ((fs.take i).any fun g => sEq g.nm s) = false:=by
 unfold findN;rw [List.findIdx?_eq_none_iff,List.any_eq_false];constructor
 ·intro h x hx;simp [h x hx]
 ·intro h x hx;simpa using h x hx
theorem getD_at {fs : List Ft} {i : Nat} {f : Ft} (h : fs[i]? = some f) : fs.getD i ft0 = f:=by rw [List.getD_eq_getElem?_getD,h];rfl
theorem twi_some {fs : List Ft} {i : Nat} {f : Ft} (h : fs[i]? = some f) (h1 : findN (fs.take i) f.nm ≠ none) (h2 : ∀ (j : Nat) (g : Ft),j < i → fs[j]? = some g → findN (fs.take j) g.nm = none) : twi fs = some f:=by
 unfold twi
 have e : (List.range fs.length).find? (fun i => ((fs.take i).any fun g => sEq g.nm (fs.getD i ft0).nm)) = some i:=by
  rw [List.find?_range_eq_some];refine ⟨?_,by simpa using (List.getElem?_eq_some_iff.1 h).1,fun j hj => ?_⟩
  ·rw [getD_at h]
   cases e : (fs.take i).any fun g => sEq g.nm f.nm
   ·exact (h1 (findN_take.2 e)).elim
   ·rfl
  ·have hl : j < fs.length:=Nat.lt_trans hj (List.getElem?_eq_some_iff.1 h).1
   have hg : fs[j]? = some fs[j]:=List.getElem?_eq_getElem hl;rw [getD_at hg,findN_take.1 (h2 j _ hj hg)];rfl
 rw [e,Option.map_some,getD_at h]
theorem twi_none {fs : List Ft} (h2 : ∀ (j : Nat) (g : Ft),fs[j]? = some g → findN (fs.take j) g.nm = none) : twi fs = none:=by
 unfold twi;rw [Option.map_eq_none_iff,List.find?_eq_none];intro j hj;have hl : j < fs.length:=by simpa using hj
 have hg : fs[j]? = some fs[j]:=List.getElem?_eq_getElem hl;rw [getD_at hg,findN_take.1 (h2 j _ hg)];simp
theorem twi_none' {fs : List Ft} (h : twi fs = none) (j : Nat) (g : Ft) (hg : fs[j]? = some g) : findN (fs.take j) g.nm = none:=by
 unfold twi at h;rw [Option.map_eq_none_iff,List.find?_eq_none] at h;have:=h j (by simpa using (List.getElem?_eq_some_iff.1 hg).1);rw [getD_at hg] at this;exact findN_take.2 (by simpa using this)
theorem find_not {α : Type} {l : List α} {P : α → Bool} (h : l.find? P = none) {a : α} (ha : a ∈ l) : P a = false:=by
 rw [List.find?_eq_none] at h
 simpa using h a ha
theorem ftr_one {f : Ft} (h : ftr f = true) : emp f.on = true ∨ emp f.ov = true:=by
 unfold ftr at h
 cases h1 : emp f.on <;> cases h2 : emp f.ov <;> simp [h1,h2] at h ⊢
theorem chk_long {fs : List Ft} (h : 4096 < fs.length) : Chk fs 2 []:=by unfold Chk;rw [if_pos h];exact ⟨rfl,rfl⟩
theorem chk_many {fs : List Ft} (h : ¬ 4096 < fs.length) (h1 : 30 < fs.length) : Chk fs 10 []:=by unfold Chk;rw [if_neg h,if_pos h1];exact ⟨rfl,rfl⟩
theorem chk_bad {fs : List Ft} (h : ¬ 30 < fs.length) {f : Ft} (hf : fs.find? (fun f => !ftr f) = some f) : Chk fs 1 [f.nm]:=by unfold Chk;rw [if_neg (by omega),if_neg h,hf];exact ⟨rfl,rfl⟩
theorem chk_twice {fs : List Ft} (h : ¬ 30 < fs.length) (hf : fs.find? (fun f => !ftr f) = none) {f : Ft} (ht : twi fs = some f) : Chk fs 7 [f.nm]:=by unfold Chk;rw [if_neg (by omega),if_neg h,hf];simp only;rw [ht];simp only;exact ⟨trivial,trivial⟩
theorem chk_name {fs : List Ft} (h : ¬ 30 < fs.length) (hf : fs.find? (fun f => !ftr f) = none) (ht : twi fs = none) {f : Ft} (hw : fs.find? (fun f => (wrg fs f).isSome) = some f) : Chk fs 6 [f.nm,(wrg fs f).getD ⟨#[]⟩]:=by unfold Chk;rw [if_neg (by omega),if_neg h,hf];simp only;rw [ht];simp only;rw [hw];simp only;exact ⟨trivial,trivial⟩
theorem chk_end {fs : List Ft} (h : ¬ 30 < fs.length) (hf : fs.find? (fun f => !ftr f) = none) (ht : twi fs = none) (hw : fs.find? (fun f => (wrg fs f).isSome) = none) {b : List Nat} (hb : Bst (sc (nms fs)) fs.length b) : Chk fs (if b = [] then 0 else 9) (b.map (fun i => (fs.getD i ft0).nm)):=by unfold Chk;rw [if_neg (by omega),if_neg h,hf];simp only;rw [ht];simp only;rw [hw];exact ⟨b,hb,rfl,rfl⟩
theorem wrg_emp {fs : List Ft} {f : Ft} {s : ByteArray} (h : wrg fs f = some s) : emp s = false:=by
 unfold wrg at h
 split at h
 ·rename_i e
  cases h
  exact e.1
 ·split at h
  ·rename_i e
   split at h
   ·cases h;exact e
   ·split at h
    ·cases h;exact e
    ·cases h
  ·cases h
theorem wrgS_iff {fs : List Ft} {f : Ft} : emp (wrgS fs f) = true ↔ wrg fs f = none:=by
 unfold wrgS
 cases h : wrg fs f with
 | none => simp [emp_iff]
 | some s => simp [wrg_emp h]
def InnX (G : Nat) (w : World) (v : Value) (l : List Nat) : Prop:=∃ b q c,v = .slice (some ⟨b,q,none⟩) l.length c ∧ b < w.heap.size ∧ b ≠ G ∧ IntsAt w b q (nats l)
theorem InnX.inn {G : Nat} {w : World} {v : Value} {l : List Nat} (h : InnX G w v l) : Inn w v l:=by
 obtain ⟨b,q,c,rfl,hb,_,hI⟩:=h;exact ⟨_,c,rfl,fun _ => ⟨b,q,rfl,hb,hI⟩⟩
theorem InnX.bel {G : Nat} {w w' : World} {v : Value} {l : List Nat} (h : InnX G w v l) (hb : Below w.heap.size w w') : InnX G w' v l:=by
 obtain ⟨b,q,c,rfl,h1,h2,hI⟩:=h;exact ⟨b,q,c,rfl,Nat.lt_of_lt_of_le h1 hb.size,h2,hI.below hb h1⟩
def OneRow (G : Nat) (w : World) (v : Value) (l : List Nat) : Prop:=∃ g o c v0,v = .slice (some ⟨g,o,none⟩) 1 c ∧ g < w.heap.size ∧ g ≠ G ∧ w.cell? ⟨g,o,none⟩ = some v0 ∧ InnX G w v0 l
theorem OneRow.bel {G : Nat} {w w' : World} {v : Value} {l : List Nat} (h : OneRow G w v l) (hb : Below w.heap.size w w') : OneRow G w' v l:=by
 obtain ⟨g,o,c,v0,rfl,hg,hG,hc,hi⟩:=h;exact ⟨g,o,c,v0,rfl,Nat.lt_of_lt_of_le hg hb.size,hG,(hb.cell (p:=⟨g,o,none⟩) hg).trans hc,hi.bel hb⟩
theorem dn_bel (W : World) (B k : Nat) : Below B W (W.drewN k):=⟨rfl,rfl,rfl,Nat.le_refl _,fun _ _ => rfl⟩
theorem take_has {l : List Nat} {j y z : Nat} (h : l[j]? = some y) : (l.take (j + 1)).contains z = ((l.take j).contains z || (y == z)):=by
 rw [List.take_add_one,h];simp only [List.contains_eq_mem,Option.toList_some,List.mem_append,List.mem_singleton];rw [Bool.eq_iff_iff];simp;constructor
 ·rintro (h | h)
  ·exact .inl h
  ·exact .inr h.symm
 ·rintro (h | h)
  ·exact .inl h
  ·exact .inr h.symm
theorem info45 : (Tryz.prog.info? 94).map (fun i => (i.zero,i.size,i.bytes)) = some (some (.slice none 0 0),1,24):=by kernel_rfl
theorem circleM_any (u : Option Addr) (n cu i0 : Nat) (nm : List (List Nat)) (w : World) (hl : nm.length = n) (hn : n ≤ 4096) (hi0 : i0 < n) (hu : NmAt w u nm) (ho : Oneful nm) :
  Calls Tryz.prog 108 #[.slice u n cu,.int .i64 (i0 : Int)] w fun e w' => (∃ v c,e = .returned v ∧ Inn w' v c ∧ Cyc (sc nm) i0 c) ∧ Below w.heap.size w w':=by
 obtain ⟨iI,hi,hz0,hz1,hz2⟩:=info_parts info3;obtain ⟨iS,hj,hy0,hy1,hy2⟩:=info_parts info45;have hmk:=fun W => make_vals (P:=Tryz.prog) 95 4 1 n (.bool false) rfl Tryz.underlying95 info4 (by omega) (by omega) W
 have HU:=hide hu;have HL:=hide hl;have HO:=hide ho;have HI:=hide hi0;clear hu hl ho;rw [← bl_nil] at hmk;go_enter Tryz.func108,Tryz.ntmps108;go_wp2_with fail
 have hr0 : OneRow (w.heap.size + 1 + 1) (((w.alloc (.cells #[.int .i64 (i0 : Int)] 3)).alloc (.cells #[.slice (some ⟨w.heap.size,0,none⟩) 1 1] 94)).alloc (.cells (bl n []).toArray 4)) (.slice (some ⟨w.heap.size + 1,0,none⟩) 1 1) (path (sc nm) 1 i0):=by
  refine ⟨w.heap.size + 1,0,1,.slice (some ⟨w.heap.size,0,none⟩) 1 1,rfl,by simp,by omega,by simp [go_sem],w.heap.size,0,1,rfl,by simp;omega,by omega,?_⟩;intro j x hj
  rcases j with _ | j
  ·simp [nats,path,it] at hj
   subst hj;simp [go_sem]
  ·simp [nats,path] at hj
 have HR0:=hide hr0;clear hr0;have HV0:=hide (vb_new ((w.alloc (.cells #[.int .i64 (i0 : Int)] 3)).alloc (.cells #[.slice (some ⟨w.heap.size,0,none⟩) 1 1] 94)) 4 (bl n []) _ rfl);have HB0:=hide (ba (ba (ba (bfl w.heap.size w) (.cells #[.int .i64 (i0 : Int)] 3)) (.cells #[.slice (some ⟨w.heap.size,0,none⟩) 1 1] 94)) (.cells (bl n []).toArray 4));simp only [World.size_alloc] at HV0;clear hmk
 go_loopg [5] (n + 2) (fun k r W => Below w.heap.size w W ∧ ((∃ t x,k = n + 2 - t ∧ Way (sc nm) n i0 t x ∧ OneRow (w.heap.size + 1 + 1) W r (path (sc nm) (t + 1) i0) ∧ vb W (w.heap.size + 1 + 1) 4 (bl n (vis (sc nm) t i0))) ∨ (k = 1 ∧ ∃ ur cr,r = .slice ur 0 cr ∧ Cyc (sc nm) i0 [])))
 case atStart => exact ⟨zu HB0,.inl ⟨0,i0,rfl,Way.start hi0,zu HR0,zu HV0⟩⟩
 case round =>
  obtain ⟨hw,⟨t,x,hgk,hway,hone,hvb⟩ | ⟨hgk,ur,cr,rfl,hcy⟩⟩:=hrel;rotate_left
  ·have HW:=hide hw
   have HC:=hide hcy;clear hw hcy HR0 HV0 HB0;go_wp2_with fail;go_ret;refine ⟨⟨_,[],rfl,⟨_,_,rfl,fun h => absurd rfl h⟩,zu HC⟩,ba (zu HW) _⟩
  obtain ⟨g5,o5,c5,v0,rfl,hg5,hG5,hc5,b0,q0,c0,rfl,hb0,hB0,hI0⟩:=hone;rw [path_len] at hc5;have HW:=hide hw;have HWY:=hide hway;have HV:=hide hvb;have HI0:=hide hI0;have HGK:=hide hgk;have htn:=hway.le;have hx:=hway.xlt;clear hw hway hvb hI0 hgk HR0 HV0 HB0;have L1 : ((t + 1 : Nat) : Int) - 1 = (t : Int):=by omega
  have lz : (0 : Int) ≤ (t : Int):=by omega
  have ly : (t : Int) < ((t + 1 : Nat) : Int):=by omega
  generalize hpl : path (sc nm) (t + 1) i0 = pl at *;have HPL:=hide hpl;clear hpl;have HC5:=hide hc5;clear hc5;go_wp2_with fail;rename World => W1
  have HR1:=hide (own_made W1 94 W1.heap.size 1 (Nat.le_refl _) _ rfl)
  go_loopw [7,8] (fun nx s W => Below w.heap.size w W ∧ ((s = .int .i64 0 ∧ nx = .slice (some ⟨W1.heap.size,0,none⟩) 0 0 ∧ W = W1.alloc (.cells #[] 94)) ∨ (s = .int .i64 1 ∧
    ((∃ y,sc nm x = some y ∧ y ≠ i0 ∧ y ∉ vis (sc nm) t i0 ∧ OneRow (w.heap.size + 1 + 1) W nx (pl ++ [y]) ∧ vb W (w.heap.size + 1 + 1) 4 (bl n (vis (sc nm) t i0 ++ [y]))) ∨ ((∀ y,sc nm x = some y → y ≠ i0 ∧ y ∈ vis (sc nm) t i0) ∧ ∃ un cn,nx = .slice un 0 cn))))) (fun _ s _ => 2 - (intOf s).toNat)
  case atStart => exact ⟨ba (zu HW) _,.inl ⟨rfl,rfl,rfl⟩⟩
  case round =>
   obtain ⟨hw2,⟨rfl,rfl,rfl⟩ | ⟨rfl,hfin⟩⟩:=hrel;rotate_left
   ·have HF:=hide hfin
    have HW2:=hide hw2;clear hfin hw2;go_wp2_with fail
    rcases zu HF with ⟨y,h1,h2,h3,h4,h5⟩ | ⟨h1,un,cn,rfl⟩
    ·go_roundg (n + 2 - (t + 1))
     case measure =>
      have:=((zu HWY).more h1 (by have:=(sc_lt (zu HO) h1).2;rw [zu HL] at this;exact this) h2 h3).le;have:=zu HGK;omega
     case rel =>
      refine ⟨zu HW2,.inl ⟨t + 1,y,rfl,(zu HWY).more h1 (by have:=(sc_lt (zu HO) h1).2;rw [zu HL] at this;exact this) h2 h3,?_,?_⟩⟩
      ·rw [(zu HWY).pathS h1,zu HPL]
       exact h4
      ·rw [(zu HWY).visS h1]
       exact h5
    ·go_roundg 1
     case measure => have:=zu HGK;omega
     case rel => exact ⟨zu HW2,.inr ⟨rfl,un,cn,rfl,(zu HWY).stop h1⟩⟩
   have HW2:=hide hw2;have k5:=ka (o:=.cells #[] 94) (zu HC5);have HI2:=hide ((zu HI0).below (ba (bfl W1.heap.size W1) (.cells #[] 94)) hb0);have k6 : (W1.alloc (.cells #[] 94)).cell? ⟨b0,q0 + t,none⟩ = some (.int .i64 (x : Int)):=(zu HI2) t _ (nats_at (by rw [← zu HPL];exact (zu HWY).lastOf));clear hw2;go_wp2_with fail
   go_quiet (fail)
   have HD:=hide (dn_bel (W1.alloc (.cells #[] 94)) (W1.alloc (.cells #[] 94)).heap.size nq);have HSD : Hid (((W1.alloc (.cells #[] 94)).drewN nq).heap = (W1.alloc (.cells #[] 94)).heap):=hide rfl;generalize (W1.alloc (.cells #[] 94)).drewN nq = W2 at *;have HC2:=hide (keep1 (zu HD) k5);have HI3:=hide ((zu HI2).below (zu HD) (by simp;omega));have HW3:=hide (bc (zu HW2) (zu HD));have HV2:=hide (((zu HV).bel (ba (bfl _ _) (.cells #[] 94))).bel (zu HD));have HR2:=hide (own_bel (zu HR1) (zu HD));have hsz2 : W1.heap.size < W2.heap.size:=by rw [zu HSD];simp
   have HSZ2:=hide hsz2;clear k5 k6 HD HSD HI2 HW2 hsz2 HR1;obtain ⟨l,hl⟩:=get_some (zu HL) hx;have HLX:=hide hl;have hone:=zu HO;have hll : l.length ≤ 1:=hone.one l (List.mem_of_getElem? hl)
   have hsc : ∀ z,l.contains z = true ↔ sc nm x = some z:=by
    intro z;have hsx : sc nm x = l.head?:=by unfold sc;rw [hl];rfl
    rw [hsx]
    match l,hll with
    | [],_ => simp
    | [a],_ => simp;exact eq_comm
   have HSC:=hide hsc;have hlt:=hone.lt l (List.mem_of_getElem? hl);rw [zu HL] at hlt;have HLT:=hide hlt;clear hl hone hsc hlt;go_wp2_with fail
   go_loopw [7,10] (fun nx s W => ∃ tt : Nat,s = .int .i64 (tt : Int) ∧ tt ≤ n ∧ Below w.heap.size w W ∧ W1.heap.size < W.heap.size ∧ W.cell? ⟨g5,o5,none⟩ = some (.slice (some ⟨b0,q0,none⟩) (t + 1) c0) ∧ IntsAt W b0 q0 (nats pl) ∧
    ((∃ y,sc nm x = some y ∧ y < tt ∧ y ≠ i0 ∧ y ∉ vis (sc nm) t i0 ∧ OneRow (w.heap.size + 1 + 1) W nx (pl ++ [y]) ∧ vb W (w.heap.size + 1 + 1) 4 (bl n (vis (sc nm) t i0 ++ [y]))) ∨ ((∀ y,sc nm x = some y → y < tt → y ≠ i0 ∧ y ∈ vis (sc nm) t i0) ∧ W.ownsRow W1.heap.size 94 1 nx 0 [] ∧ vb W (w.heap.size + 1 + 1) 4 (bl n (vis (sc nm) t i0))))) (fun _ s _ => n - (intOf s).toNat)
   case atStart => exact ⟨0,rfl,Nat.zero_le _,zu HW3,zu HSZ2,zu HC2,zu HI3,.inr ⟨fun y _ h => by omega,zu HR2,zu HV2⟩⟩
   case round =>
    rename World => W3
    obtain ⟨tt,rfl,htt,hw3,hs3,hc3,hi3,hst⟩:=hrel;have HW4:=hide hw3;have HS4:=hide hs3;have HC4:=hide hc3;have HI4:=hide hi3;have HST:=hide hst;clear hw3 hs3 hc3 hi3 hst HC2 HI3 HW3 HV2 HR2 HSZ2
    by_cases h : tt < n
    ·have e1 : (tt : Int) < (n : Int):=by omega
     have e0 : (0 : Int) ≤ (tt : Int):=Int.natCast_nonneg _;have ez : decide ((tt : Int) < (n : Int)) = true:=dt e1;have x1 : (x : Int) < (n : Int):=by omega
     have x0 : (0 : Int) ≤ (x : Int):=Int.natCast_nonneg _;obtain ⟨gn,on,rfl,xv,xc,hcx,hin⟩:=((zu HU).bel (zu HW4)).at (zu HLX);have HIN:=hide hin;clear hin;go_wp2_with fail
     go_loopw [11,12] (fun r k W => ∃ j : Nat,k = .int .i64 (j : Int) ∧ j ≤ l.length ∧ r = .bool ((l.take j).contains tt) ∧ W = W3) (fun _ k _ => l.length - (intOf k).toNat)
     case atStart => exact ⟨0,rfl,Nat.zero_le _,by simp,rfl⟩
     case round =>
      obtain ⟨j,rfl,hj',hr,hww⟩:=hrel;subst hww;subst hr;rename World => W3
      by_cases hjl : j < l.length
      ·have t1 : (j : Int) < (l.length : Int):=by omega
       have t0 : (0 : Int) ≤ (j : Int):=Int.natCast_nonneg _;have tz : decide ((j : Int) < (l.length : Int)) = true:=dt t1;have hy : l[j]? = some l[j]:=List.getElem?_eq_getElem hjl;obtain ⟨b,qo,rfl,hcell⟩:=zu HIN (by intro e;rw [e] at hjl;simp at hjl);have HAT:=hide (take_has (z:=tt) hy);generalize l[j] = y at *;have k1:=hcell j y hy;clear hcell hy;generalize hrr : (l.take j).contains tt = rr at *;have HRR:=hide hrr;clear hrr
       cases hyt : (y == tt)
       ·have hyi : ((y : Int) == (tt : Int)) = false:=by rw [beq_eq_false_iff_ne] at hyt ⊢;omega
        have HYT:=hide hyt;clear hyt
        cases rr
        ·go_wp2_with fail
         go_roundw
         case rel => exact ⟨j + 1,by simp,hjl,by rw [zu HAT,zu HYT];rfl,by first | rfl | trivial⟩
         case measure => simp only [intOf];omega
        ·go_wp2_with fail
         go_roundw
         case rel => exact ⟨j + 1,by simp,hjl,by rw [zu HAT];rfl,by first | rfl | trivial⟩
         case measure => simp only [intOf];omega
       ·have hyi : ((y : Int) == (tt : Int)) = true:=by rw [beq_iff_eq] at hyt ⊢;omega
        have HYT:=hide hyt;clear hyt
        cases rr
        ·go_wp2_with fail
         go_roundw
         case rel => exact ⟨j + 1,by simp,hjl,by rw [zu HAT,zu HYT];rfl,by first | rfl | trivial⟩
         case measure => simp only [intOf];omega
        ·go_wp2_with fail
         go_roundw
         case rel => exact ⟨j + 1,by simp,hjl,by rw [zu HAT];rfl,by first | rfl | trivial⟩
         case measure => simp only [intOf];omega
      ·have t1 : ¬ (j : Int) < (l.length : Int):=by omega
       have tz : decide ((j : Int) < (l.length : Int)) = false:=df t1;have hjl' : l.take j = l:=List.take_of_length_le (by omega);rw [hjl'];clear hjl';have k5:=zu HC4
       cases hld : l.contains tt
       ·have hno : sc nm x ≠ some tt:=by
         intro e;rw [(zu HSC tt).2 e] at hld
         cases hld
        have HNO:=hide hno;clear hno hld;go_wp2_with fail;go_roundw
        case rel =>
         refine ⟨tt + 1,by simp,h,zu HW4,zu HS4,zu HC4,zu HI4,?_⟩
         rcases zu HST with ⟨y,h1,h2,h3,h4,h5,h6⟩ | ⟨h1,h2,h3⟩
         ·exact .inl ⟨y,h1,by omega,h3,h4,h5,h6⟩
         ·refine .inr ⟨fun y hy hlt => h1 y hy ?_,h2,h3⟩
          have : y ≠ tt:=by intro e;subst e;exact zu HNO hy
          omega
        case measure => simp only [intOf];omega
       ·have hsx : sc nm x = some tt:=(zu HSC tt).1 hld
        have HSX:=hide hsx;clear hld
        obtain ⟨h1,hown,hvb⟩ : (∀ y,sc nm x = some y → y < tt → y ≠ i0 ∧ y ∈ vis (sc nm) t i0) ∧ _ ∧ _:=by
         rcases zu HST with ⟨y,h1,h2,_⟩ | h
         ·rw [hsx] at h1
          cases h1
          omega
         ·exact h
        clear h1 hsx
        by_cases hti : tt = i0
        ·have htb : ((tt : Int) == (i0 : Int)) = true:=by rw [beq_iff_eq];omega
         have HTI:=hide hti;clear hti hown hvb;go_wp2_with fail;go_ret;refine ⟨⟨_,rfl,pl,?_,?_⟩,zu HW4⟩
         ·have hpl : pl.length = t + 1:=by rw [← zu HPL,path_len]
          refine ⟨_,c0,by rw [hpl];rfl,fun _ => ⟨b0,q0,rfl,?_,zu HI4⟩⟩;have:=zu HS4;omega
         ·rw [← zu HPL]
          exact (zu HWY).back (by rw [zu HSX,zu HTI])
        ·have htb : ((tt : Int) == (i0 : Int)) = false:=by rw [beq_eq_false_iff_ne];omega
         have hcs:=hvb.cell (bl_at h);have fz : ∀ z,W3.frozen? ⟨w.heap.size + 1 + 1,z,none⟩ = false:=hvb.frozen;have HVB:=hide hvb;have HOW:=hide hown;have HTI:=hide hti;clear hti hown hvb
         cases hvs : (vis (sc nm) t i0).contains tt
         ·have HNV : Hid (tt ∉ vis (sc nm) t i0):=hide (by intro e;rw [List.contains_eq_mem,dt e] at hvs;cases hvs)
          rw [hvs] at hcs;clear hvs;have hpl : pl.length = t + 1:=by rw [← zu HPL,path_len]
          have HPN:=hide hpl;clear hpl;have HGL:=hide (zu HV).lt;have HV5:=hide ((zu HVB).set tt (.bool true));rw [bl_set h] at HV5;have HB5:=hide (Below.setCell (zu HW4) (p:=⟨w.heap.size + 1 + 1,tt,none⟩) (by simp;omega) (.bool true));have HC5' : Hid ((W3.setCell ⟨w.heap.size + 1 + 1,tt,none⟩ (.bool true)).cell? ⟨g5,o5,none⟩ = some (.slice (some ⟨b0,q0,none⟩) (t + 1) c0)):=hide ((World.cell?_of_block (w:=W3) (a:=⟨g5,o5,none⟩) (Below.heap_setCell _ _ _ _ hG5)).trans (zu HC4))
          have HI5 : Hid (IntsAt (W3.setCell ⟨w.heap.size + 1 + 1,tt,none⟩ (.bool true)) b0 q0 (nats pl)):=hide (fun j x hj => (World.cell?_of_block (w:=W3) (a:=⟨b0,q0 + j,none⟩) (Below.heap_setCell _ _ _ _ hB0)).trans (zu HI4 j x hj));have HS5 : Hid ((W3.setCell ⟨w.heap.size + 1 + 1,tt,none⟩ (.bool true)).heap.size = W3.heap.size):=hide (by simp [World.setCell])
          have HO5:=hide (own_kept (zu HOW) (w':=W3.setCell ⟨w.heap.size + 1 + 1,tt,none⟩ (.bool true)) (fun g hg => by have h1:=(own_ge (zu HOW) g hg).1;have h2:=zu HGL;have h3 : g ≠ w.heap.size + 1 + 1:=(by omega);exact Below.heap_setCell _ _ _ _ h3));have HTT:=hide (Int.natCast_nonneg tt);have k7:=ka (o:=.cells #[] 3) (zu HC5');clear HVB HOW HC4 HI4 HST
          go_wp2_with (at_builtin;refine zu ?_)
          refine hide ?_;generalize W3.setCell ⟨w.heap.size + 1 + 1,tt,none⟩ (.bool true) = W4 at *;clear k7;have hs4 : W1.heap.size < W4.heap.size:=by rw [zu HS5];exact zu HS4
          have HA1:=hide (own_made W4 3 W4.heap.size 1 (Nat.le_refl _) W3.heap.size (zu HS5).symm);have HI6:=hide ((zu HI5).below (B:=W4.heap.size) (ba (bfl W4.heap.size W4) (.cells #[] 3)) (by omega));have hG1 : Below W4.heap.size W4 (W4.alloc (.cells #[] 3)):=ba (bfl _ _) _
          refine wpList_append_own _ rfl _ _ 94 rfl W4.heap.size 3 iI _ 1 8 Tryz.underlying94 hi hz0 hz1 hz2 rfl (by decide) (.slice (some ⟨W3.heap.size,0,none⟩) 0 0) 0 [] rfl (zu HA1) ⟨b0,q0,none⟩ (t + 1) c0 ((nats pl).map (Value.int .i64)) rfl (by rw [List.length_map,nats_len,zu HPN,Nat.mul_one]) (by
           intro j u hj;rw [List.getElem?_map] at hj;obtain ⟨z,hz,rfl⟩:=Option.map_eq_some_iff.1 hj;rw [add_none]
           exact zu HI6 j z hz) ints_one (by unfold maxLen;omega) (by omega) (by simp) ?_
          intro v1 w1 hown1 hgrow1 _;have hbe1 : Below W4.heap.size W4 w1:=hG1.grown hgrow1 (by simp) (fun j hj => by simp only [Value.ownBlock,Option.some.injEq] at hj;have:=zu HS5;omega);have HBE1:=hide hbe1;have HOW1:=hide hown1;clear hown1 hgrow1 hbe1 hG1
          go_wp2_with (at_builtin;refine zu ?_)
          refine hide ?_;have hs1:=(zu HBE1).size;refine wpList_append_own _ rfl _ _ 94 rfl W4.heap.size 3 iI _ 1 8 Tryz.underlying94 hi hz0 hz1 hz2 rfl (by decide) v1 (0 + (t + 1)) ([] ++ (nats pl).map (Value.int .i64)) rfl ((zu HOW1).alloc _) _ 1 1 ([(tt : Int)].map (Value.int .i64)) rfl rfl (by first | exact news_cells _ _ rfl | exact news_cells _ _ (by simp)) ints_one (by unfold maxLen;omega) (by omega) (Nat.le_trans hs1 (by simp)) ?_;intro v2 w2 hown2 hgrow2 _
          have hbe2 : Below W4.heap.size W4 w2:=((zu HBE1).alloc hs1 _).grown hgrow2 (Nat.le_trans hs1 (by simp)) (fun j hj => (own_ge (zu HOW1) j hj).1);have HBE2:=hide hbe2;have HOW2:=hide hown2;clear hown2 hgrow2 hbe2;obtain ⟨u2,cap2,rfl,_,_,hf2⟩:=own_form (zu HOW2);obtain ⟨g2,rfl,hg2,hg2',hcell2⟩:=hf2 (by omega)
          have hcells2 : IntsAt w2 g2 0 (nats (pl ++ [tt])):=by
           intro j z hj;rw [Nat.zero_add];apply hcell2;have e : ([] ++ (nats pl).map (Value.int .i64) ++ [(tt : Int)].map (Value.int .i64)) = (nats (pl ++ [tt])).map (Value.int .i64):=by simp [nats]
           rw [e,List.getElem?_map,hj];rfl
          have HCE2:=hide hcells2;clear hcell2 hf2 hcells2;have hlen2 : 0 + (t + 1) + 1 = (pl ++ [tt]).length:=by simp [zu HPN]
          have HLN2:=hide hlen2;clear hlen2;have HO6:=hide (own_kept (zu HO5) (w':=w2) (fun g hg => (zu HBE2).block g (own_ge (zu HO5) g hg).2));have hs2:=(zu HBE2).size
          go_wp2_with (at_builtin;refine zu ?_)
          refine hide ?_;refine wpList_append_own _ rfl _ _ 122 rfl W1.heap.size 94 iS _ 1 24 Tryz.underlying122 hj hy0 hy1 hy2 rfl (by decide) _ 0 [] rfl ((zu HO6).alloc _) _ 1 1 ([.slice (some ⟨g2,0,none⟩) (t + 1 + 1) cap2]) rfl rfl (by first | exact news_cells _ _ rfl | exact news_cells [.slice (some ⟨g2,0,none⟩) (t + 1 + 1) cap2] _ rfl | trace_state) (by intro u hu;simp only [List.mem_singleton] at hu;subst hu;rfl) (by unfold maxLen;omega) (by omega) (Nat.le_trans (Nat.le_of_lt hs4) (Nat.le_trans hs2 (by simp))) ?_;intro v3 w3 hown3 hgrow3 _
          have hal : Below w2.heap.size w2 (w2.alloc (.cells #[.slice (some ⟨g2,0,none⟩) (t + 1 + 1) cap2] 94)):=ba (bfl _ _) _;have hbe3 : Below W1.heap.size W4 w3:=(((zu HBE2).mono (Nat.le_of_lt hs4)).trans (hal.mono (by omega))).grown hgrow3 (Nat.le_trans (by omega) (Nat.le_trans hs2 hal.size)) (fun j hj => (own_ge (zu HO6) j hj).1)
          have hg23 : w3.heap[g2]? = w2.heap[g2]?:=(hgrow3.block g2 (Nat.lt_of_lt_of_le hg2' hal.size) (by
           intro e;have h1:=(own_ge (zu HO5) g2 e.symm).2
           omega)).trans (hal.block g2 hg2')
          have HBE3:=hide hbe3;have HOW3:=hide hown3;have hs3 : w2.heap.size ≤ w3.heap.size:=Nat.le_trans hal.size hgrow3.size;have HG23:=hide hg23;clear hown3 hgrow3 hbe3 hg23 hal;obtain ⟨u3,cap3,rfl,_,_,hf3⟩:=own_form (zu HOW3);obtain ⟨g3,rfl,hg3,hg3',hcell3⟩:=hf3 (by omega);have HCL3:=hide (hcell3 0 _ rfl);clear hcell3 hf3;go_wp2_with fail;go_roundw
          case rel =>
           have hgl:=zu HGL;refine ⟨tt + 1,by simp,h,(zu HB5).trans ((zu HBE3).mono (by have:=(zu HW).size;omega)),by omega,(zu HBE3).cell (p:=⟨g5,o5,none⟩) hg5 |>.trans (zu HC5'),(zu HI5).below (zu HBE3) hb0,.inl ⟨tt,zu HSX,by omega,zu HTI,zu HNV,?_,(zu HV5).below (zu HBE3) hgl⟩⟩;refine ⟨g3,0,cap3,_,rfl,hg3',by omega,zu HCL3,g2,0,cap2,?_,by omega,by omega,?_⟩
           ·rw [← zu HLN2]
            simp
           ·intro j z hj
            exact (World.cell?_of_block (w:=w2) (a:=⟨g2,0 + j,none⟩) (zu HG23)).trans (zu HCE2 j z hj)
          case measure => simp only [intOf];omega
         ·have HNV : Hid (tt ∈ vis (sc nm) t i0):=hide (by rw [List.contains_eq_mem] at hvs;exact of_decide_eq_true hvs)
          rw [hvs] at hcs;clear hvs;go_wp2_with fail;go_roundw
          case rel =>
           refine ⟨tt + 1,by simp,h,zu HW4,zu HS4,zu HC4,zu HI4,.inr ⟨?_,zu HOW,zu HVB⟩⟩;intro y hy _;rw [zu HSX] at hy
           cases hy
           exact ⟨zu HTI,zu HNV⟩
          case measure => simp only [intOf];omega
    ·have e1 : ¬ (tt : Int) < (n : Int):=by omega
     have ez : decide ((tt : Int) < (n : Int)) = false:=df e1;go_wp2_with fail;go_roundw
     case rel =>
      refine ⟨zu HW4,.inr ⟨rfl,?_⟩⟩
      rcases zu HST with ⟨y,h1,h2,h3,h4,h5,h6⟩ | ⟨h1,h2,h3⟩
      ·exact .inl ⟨y,h1,h3,h4,h5,h6⟩
      ·obtain ⟨un,cn,e,_⟩:=own_form h2
       exact .inr ⟨fun y hy => h1 y hy (by have:=(sc_lt (zu HO) hy).2;rw [zu HL] at this;omega),un,cn,e⟩
     case measure => simp [intOf]
theorem bu11 {s1 s2 s3 s4 s5 s6 s7 s8 s9 s10 s11 s12 s13 s14 s15 s16 s17 s18 s19 s20 s21 s22 s23 s24 s25 s26 s27 s28 s29 s30 s31 s32 s33 s34 s35 s36 s37 s38 s39 s40 s41 s42 s43 s44 s45 s46 s47 s48 s49 s50 s51 s52 s53 s54 s55 s56 s57 s58 s59 s60 s61 s62 s63 s64 s65 s66 s67 s68 s69 s70 s71 s72 s73 s74 s75 s76 s77 s78 s79 s80 s81 s82 s83 s84 s85 s86 s87 s88 s89 s90 s91 s92 s93 s94 s95 s96 s97 s98 s99 s100 s101 s102 s103 s104 s105 s106 s107 s108 s109 s110 s111 s112 s113 s114 s115 s116 s117 s118 s119 s120 s121 s122 : Value} {n cu : Nat} {u : Option Addr} {V : World} {K_ : Act → World → Prop}
  (hQ : ∀ (g gf gb : Nat) (W9 : World),Below V.heap.size V W9 → vb W9 g 97 [.slice u n cu,.slice none 0 0,.slice (some ⟨gf,0,none⟩) 13824 13824,.slice (some ⟨gb,0,none⟩) 13824 13824,.slice none 0 0] → vb W9 gf 4 (List.replicate 13824 (.bool false)) → vb W9 gb 3 (List.replicate 13824 (.int .i64 0)) → g ≠ gf → g ≠ gb → gf ≠ gb → V.heap.size ≤ g → V.heap.size ≤ gf → V.heap.size ≤ gb → K_ { tmps:=#[.slice u n cu,s1,s2,s3,s4,s5,s6,s7,s8,s9,s10,.pointer (some ⟨g,0,none⟩),s12,s13,s14,s15,s16,s17,s18,s19,s20,s21,s22,s23,s24,s25,s26,s27,s28,s29,s30,s31,s32,s33,s34,s35,s36,s37,s38,s39,s40,s41,s42,s43,s44,s45,s46,s47,s48,.slice u n cu,.slice (some ⟨gf,0,none⟩) 13824 13824,.slice (some ⟨gb,0,none⟩) 13824 13824,.agg #[.slice u n cu,.slice none 0 0,.slice (some ⟨gf,0,none⟩) 13824 13824,.slice (some ⟨gb,0,none⟩) 13824 13824,.slice none 0 0],.pointer (some ⟨g,0,none⟩),s54,s55,s56,s57,s58,s59,s60,s61,s62,s63,s64,s65,s66,s67,s68,s69,s70,s71,s72,s73,s74,s75,s76,s77,s78,s79,s80,s81,s82,s83,s84,s85,s86,s87,s88,s89,s90,s91,s92,s93,s94,s95,s96,s97,s98,s99,s100,s101,s102,s103,s104,s105,s106,s107,s108,s109,s110,s111,s112,s113,s114,s115,s116,s117,s118,s119,s120,s121,s122],defers:=[] } W9) :
  Go.Code.wp Tryz.prog (rg44 11) (Only K_) { tmps:=#[.slice u n cu,s1,s2,s3,s4,s5,s6,s7,s8,s9,s10,s11,s12,s13,s14,s15,s16,s17,s18,s19,s20,s21,s22,s23,s24,s25,s26,s27,s28,s29,s30,s31,s32,s33,s34,s35,s36,s37,s38,s39,s40,s41,s42,s43,s44,s45,s46,s47,s48,s49,s50,s51,s52,s53,s54,s55,s56,s57,s58,s59,s60,s61,s62,s63,s64,s65,s66,s67,s68,s69,s70,s71,s72,s73,s74,s75,s76,s77,s78,s79,s80,s81,s82,s83,s84,s85,s86,s87,s88,s89,s90,s91,s92,s93,s94,s95,s96,s97,s98,s99,s100,s101,s102,s103,s104,s105,s106,s107,s108,s109,s110,s111,s112,s113,s114,s115,s116,s117,s118,s119,s120,s121,s122],defers:=[] } V:=by
 have HK:=hide hQ;clear hQ;have hm1 : ∀ W,(Instr.makeSlice 95 (.int .i64 13824) (.int .i64 13824)).run Tryz.prog W = .ok (.slice (some ⟨W.heap.size,0,none⟩) 13824 13824) (W.alloc (.cells (List.replicate 13824 (.bool false)).toArray 4)):=fun W => make_vals (P:=Tryz.prog) 95 4 1 13824 (.bool false) rfl Tryz.underlying95 info4 (by omega) (by omega) W
 have hm2 : ∀ W,(Instr.makeSlice 94 (.int .i64 13824) (.int .i64 13824)).run Tryz.prog W = .ok (.slice (some ⟨W.heap.size,0,none⟩) 13824 13824) (W.alloc (.cells (List.replicate 13824 (.int .i64 0)).toArray 3)):=fun W => make_vals (P:=Tryz.prog) 94 3 8 13824 (.int .i64 0) rfl Tryz.underlying94 info3 (by omega) (by omega) W
 obtain ⟨L1,hL1⟩ : ∃ L,List.replicate 13824 (Value.bool false) = L:=⟨_,rfl⟩
 obtain ⟨L2,hL2⟩ : ∃ L,List.replicate 13824 (Value.int .i64 0) = L:=⟨_,rfl⟩
 rw [hL1] at hm1 HK;rw [hL2] at hm2 HK;clear hL1 hL2
 conv => arg 2;whnf
 go_region
 ·exact zu HK (V.heap.size + 1 + 1) V.heap.size (V.heap.size + 1) _ (Below.drew (ba (ba (ba (bfl _ _) _) _) _)) (vb_new ((V.alloc (.cells L1.toArray 4)).alloc (.cells L2.toArray 3)) 97 _ _ (by simp)) ((vb_new V 4 L1 _ rfl).bel (Below.drew (ba (ba (bfl _ _) _) _))) ((vb_new (V.alloc (.cells L1.toArray 4)) 3 L2 _ (by simp)).bel (Below.drew (ba (bfl _ _) _))) (by omega) (by omega) (by omega) (by omega) (by omega) (by omega)
 ·exact zu HK (V.heap.size + 1 + 1) (V.heap.size + 1) V.heap.size _ (Below.drew (ba (ba (ba (bfl _ _) _) _) _)) (vb_new ((V.alloc (.cells L2.toArray 3)).alloc (.cells L1.toArray 4)) 97 _ _ (by simp)) ((vb_new (V.alloc (.cells L2.toArray 3)) 4 L1 _ (by simp)).bel (Below.drew (ba (bfl _ _) _))) ((vb_new V 3 L2 _ rfl).bel (Below.drew (ba (ba (bfl _ _) _) _))) (by omega) (by omega) (by omega) (by omega) (by omega) (by omega)
end Go.Proofs.YtkiplmabjeadgaaGreat
