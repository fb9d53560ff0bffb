/- Rows of whole numbers in memory: where they lie, what is written over, and that all else stays. -/
import Derived.Test.YtkiplmabjeadgaaGreatProg
import Derived.WalkKit
import Derived.ProofKit
import Derived.OpenShut
import Derived.Deep.QuietTactic
import Derived.BigQuiet
import Derived.Below
import Derived.Deep.RegionHeld3
import Derived.Deep.DeepCutAuto
import Derived.Laws.RangeAny
import Derived.Deep.DrawnRows
namespace Go.Proofs.YtkiplmabjeadgaaGreat
set_option maxRecDepth 100000
set_option maxHeartbeats 16000000
open Go.ChangeShapes Go.WideShapes Go.ChangeAt Go.RowKit
set_option linter.unusedVariables false
theorem zu {p : Prop} (h : Hid p) : p := h
theorem dt {p : Prop} [Decidable p] (h : p) : decide p = true := decide_eq_true h
theorem df {p : Prop} [Decidable p] (h : ¬ p) : decide p = false := decide_eq_false h
theorem bfl (n : Nat) (w : World) : Below n w w := Below.refl n w
theorem hide {p : Prop} (h : p) : Hid p:=h
theorem ret_int {k : IntKind} {a b : Int} (h : a = b) : Ending.returned (.int k a) = .returned (.int k b):=by rw [h]
theorem ret_bool {a b : Bool} (h : a = b) : Ending.returned (.bool a) = .returned (.bool b):=by rw [h]
theorem cell_lt {W : World} {b o : Nat} {v : Value} (h : W.cell? ⟨b,o,none⟩ = some v) : b < W.heap.size:=by
 by_cases hb : b < W.heap.size
 ·exact hb
 ·have : W.heap[b]? = none:=by simp;omega
  simp [World.cell?,this] at h
theorem keep1 {W w1 : World} (hb : Below W.heap.size W w1) {b o : Nat} {v : Value} (h : W.cell? ⟨b,o,none⟩ = some v) : w1.cell? ⟨b,o,none⟩ = some v :=
 (hb.cell (p:=⟨b,o,none⟩) (cell_lt h)).trans h
theorem keepz {W w1 : World} (hb : Below W.heap.size W w1) {b o : Nat} (h : b < W.heap.size) (hf : W.frozen? ⟨b,o,none⟩ = false) : w1.frozen? ⟨b,o,none⟩ = false :=
 (hb.frozen (p:=⟨b,o,none⟩) h).trans hf
theorem ka {W : World} {o : Obj} {b f : Nat} {v : Value} (h : W.cell? ⟨b,f,none⟩ = some v) : (W.alloc o).cell? ⟨b,f,none⟩ = some v:=by
 rw [World.cell?_alloc_past _ _ _ (cell_lt h)];exact h
theorem bc {w W w1 : World} (h : Below w.heap.size w W) (hb : Below W.heap.size W w1) : Below w.heap.size w w1:=h.trans (hb.mono h.size)
theorem ba {w W : World} (h : Below w.heap.size w W) (o : Obj) : Below w.heap.size w (W.alloc o):=h.alloc h.size o
theorem le1 {b n k : Nat} (h : b ≤ n) : b ≤ n + k:=Nat.le_trans h (Nat.le_add_right n k)
theorem lt1 {b n k : Nat} (h : b < n) : b < n + k:=Nat.lt_of_lt_of_le h (Nat.le_add_right n k)
def it (s : Nat → Option Nat) : Nat → Nat → Option Nat
 | 0,i => some i
 | t + 1,i => (it s t i).bind s
theorem it_front (s : Nat → Option Nat) (t i : Nat) : it s (t + 1) i = (s i).bind (it s t):=by
 induction t generalizing i with
 | zero => simp only [it,Option.bind_some];cases s i <;> rfl
 | succ t ih =>
  rw [it,ih]
  cases h : s i with
  | none => rfl
  | some j => rfl
theorem it_add (s : Nat → Option Nat) (t u i : Nat) : it s (t + u) i = (it s t i).bind (it s u):=by
 induction t generalizing i with
 | zero => simp [it]
 | succ t ih =>
  rw [show t + 1 + u = t + u + 1 by omega,it_front,it_front]
  cases s i with
  | none => rfl
  | some j => simp only [Option.bind_some];exact ih j
theorem it_none {s : Nat → Option Nat} {t i : Nat} (h : it s t i = none) {u : Nat} (hu : t ≤ u) : it s u i = none:=by
 obtain ⟨k,rfl⟩:=Nat.exists_eq_add_of_le hu;rw [it_add,h];rfl
def First (s : Nat → Option Nat) (i j L : Nat) : Prop:=0 < L ∧ it s L i = some j ∧ ∀ t,0 < t → t < L → it s t i ≠ some j
theorem First.uniq {s : Nat → Option Nat} {i j L M : Nat} (h : First s i j L) (k : First s i j M) : L = M:=by
 rcases Nat.lt_trichotomy L M with e | e | e
 ·exact absurd h.2.1 (k.2.2 L h.1 e)
 ·exact e
 ·exact absurd k.2.1 (h.2.2 M k.1 e)
theorem First.one {s : Nat → Option Nat} {i j : Nat} (h : s i = some j) : First s i j 1:=⟨by omega,by rw [it_front,h];rfl,fun t h1 h2 => by omega⟩
theorem First.more {s : Nat → Option Nat} {i r j L : Nat} (h : s i = some r) (hr : r ≠ j) (f : First s r j L) : First s i j (L + 1):=by
 refine ⟨by omega,by rw [it_front,h];exact f.2.1,fun t h1 h2 => ?_⟩
 obtain ⟨u,rfl⟩ : ∃ u,t = u + 1:=⟨t - 1,by omega⟩
 rw [it_front,h];simp only [Option.bind_some]
 cases u with
 | zero => simp only [it,ne_eq,Option.some.injEq];exact hr
 | succ u => exact f.2.2 (u + 1) (by omega) (by omega)
theorem First.back {s : Nat → Option Nat} {i r j L : Nat} (f : First s i j L) (h : s i = some r) : (r = j ∧ L = 1) ∨ (r ≠ j ∧ 1 < L ∧ First s r j (L - 1)):=by
 by_cases e : r = j
 ·exact .inl ⟨e,f.uniq (.one (e ▸ h))⟩
 ·right
  have h1 : 1 < L:=by
   rcases Nat.lt_or_ge 1 L with g | g
   ·exact g
   ·have : L = 1:=by have:=f.1;omega
    subst this;have:=f.2.1;rw [it_front,h] at this;exact absurd (Option.some.inj this) e
  refine ⟨e,h1,by omega,?_,fun t t0 t1 => ?_⟩
  ·have:=f.2.1
   rw [show L = L - 1 + 1 by omega,it_front,h] at this;exact this
  ·have:=f.2.2 (t + 1) (by omega) (by omega)
   rw [it_front,h] at this;exact this
theorem First.no {s : Nat → Option Nat} {i j L : Nat} (f : First s i j L) (h : s i = none) : False:=by
 have:=f.2.1;rw [show L = L - 1 + 1 by have:=f.1;omega,it_front,h] at this
 cases this
theorem First.rest {s : Nat → Option Nat} {i j L : Nat} (f : First s i j L) {t : Nat} (h : t < L) : ∃ p,it s t i = some p ∧ First s p j (L - t):=by
 induction t with
 | zero => exact ⟨i,rfl,by simpa using f⟩
 | succ t ih =>
  obtain ⟨p,hp,g⟩:=ih (by omega)
  cases hs : s p with
  | none => exact (g.no hs).elim
  | some r =>
   rcases g.back hs with ⟨_,e⟩ | ⟨_,_,g1⟩
   ·omega
   ·exact ⟨r,by simp [it,hp,hs],by rw [show L - (t + 1) = L - t - 1 by omega];exact g1⟩
theorem First.of {s : Nat → Option Nat} {i j : Nat} : ∀ {t : Nat},0 < t → it s t i = some j → ∃ L,First s i j L:=by
 intro t
 induction t using Nat.strongRecOn with
 | _ t ih =>
  intro h0 h
  by_cases e : ∃ u,0 < u ∧ u < t ∧ it s u i = some j
  ·obtain ⟨u,u0,u1,hu⟩:=e
   exact ih u u1 u0 hu
  ·exact ⟨t,h0,h,fun u u0 u1 hu => e ⟨u,u0,u1,hu⟩⟩
def path (s : Nat → Option Nat) : Nat → Nat → List Nat
 | 0,_ => []
 | L + 1,i => path s L i ++ [(it s L i).getD 0]
theorem path_len (s : Nat → Option Nat) (L i : Nat) : (path s L i).length = L:=by
 induction L with
 | zero => rfl
 | succ L ih => simp [path,ih]
def Cyc (s : Nat → Option Nat) (i : Nat) (c : List Nat) : Prop:=(∃ L,First s i i L ∧ c = path s L i) ∨ ((∀ L,¬ First s i i L) ∧ c = [])
theorem Cyc.uniq {s : Nat → Option Nat} {i : Nat} {c d : List Nat} (h : Cyc s i c) (k : Cyc s i d) : c = d:=by
 rcases h with ⟨L,f,rfl⟩ | ⟨n,rfl⟩ <;> rcases k with ⟨M,g,rfl⟩ | ⟨m,rfl⟩
 ·rw [f.uniq g]
 ·exact (m _ f).elim
 ·exact (n _ g).elim
 ·rfl
def better (b c : List Nat) : List Nat:=if 0 < c.length ∧ (b.length = 0 ∨ c.length < b.length) then c else b
def Bst (s : Nat → Option Nat) : Nat → List Nat → Prop
 | 0,b => b = []
 | k + 1,b => ∃ b0 c,Bst s k b0 ∧ Cyc s k c ∧ b = better b0 c
theorem Bst.uniq {s : Nat → Option Nat} {n : Nat} {b d : List Nat} (h : Bst s n b) (k : Bst s n d) : b = d:=by
 induction n generalizing b d with
 | zero => rw [show b = [] from h,show d = [] from k]
 | succ n ih =>
  obtain ⟨b0,c,h1,h2,rfl⟩:=h;obtain ⟨d0,e,k1,k2,rfl⟩:=k;rw [ih h1 k1,h2.uniq k2]
theorem Bst.none {s : Nat → Option Nat} {n : Nat} {b : List Nat} (h : Bst s n b) : b = [] ↔ ∀ i,i < n → ∀ L,¬ First s i i L:=by
 induction n generalizing b with
 | zero => exact ⟨fun _ i hi => by omega,fun _ => h⟩
 | succ n ih =>
  obtain ⟨b0,c,h1,h2,rfl⟩:=h;have k:=ih h1
  rcases h2 with ⟨L,f,rfl⟩ | ⟨m,rfl⟩
  ·constructor
   ·intro e
    unfold better at e;have f0:=f.1
    split at e
    ·have:=congrArg List.length e
     rw [path_len] at this;simp at this;omega
    ·rename_i x
     subst e;exact (x ⟨by rw [path_len];omega,.inl rfl⟩).elim
   ·intro a
    exact (a n (by omega) L f).elim
  ·have e : better b0 [] = b0:=by simp [better]
   rw [e,k];constructor
   ·intro a i hi L f
    by_cases g : i < n
    ·exact a i g L f
    ·have : i = n:=by omega
     subst this;exact m L f
   ·intro a i hi
    exact a i (by omega)
def sc (nm : List (List Nat)) (i : Nat) : Option Nat:=(nm[i]?).bind List.head?
structure Oneful (nm : List (List Nat)) : Prop where
 one : ∀ l ∈ nm,l.length ≤ 1
 lt : ∀ l ∈ nm,∀ x ∈ l,x < nm.length
theorem Oneful.at {nm : List (List Nat)} (h : Oneful nm) {i : Nat} (hi : i < nm.length) : (nm[i]? = some [] ∧ sc nm i = none) ∨ ∃ p,p < nm.length ∧ nm[i]? = some [p] ∧ sc nm i = some p:=by
 have e : nm[i]? = some nm[i]:=List.getElem?_eq_getElem hi;have m : nm[i] ∈ nm:=List.getElem_mem hi;have h1:=h.one _ m;have h2:=h.lt _ m;generalize nm[i] = l at *
 match l,h1,h2 with
 | [],_,_ => exact .inl ⟨e,by simp [sc,e]⟩
 | [p],_,h2 => exact .inr ⟨p,h2 p (by simp),e,by simp [sc,e]⟩
 | _ :: _ :: _,h1,_ => simp at h1
theorem sc_lt {nm : List (List Nat)} (h : Oneful nm) {i p : Nat} (hs : sc nm i = some p) : i < nm.length ∧ p < nm.length:=by
 have hi : i < nm.length:=by
  rcases Nat.lt_or_ge i nm.length with g | g
  ·exact g
  ·simp [sc,List.getElem?_eq_none g] at hs
 rcases h.at hi with ⟨_,e⟩ | ⟨q,hq,_,e⟩
 ·rw [e] at hs;cases hs
 ·rw [e] at hs;cases hs;exact ⟨hi,hq⟩
def rdy (nm : List (List Nat)) (o : List Nat) (i : Nat) : Bool:=!o.contains i && (nm.getD i []).all fun p => o.contains p
def ff (nm : List (List Nat)) (o : List Nat) : Option Nat:=(List.range nm.length).find? (rdy nm o)
def wo (nm : List (List Nat)) : Nat → List Nat
 | 0 => []
 | k + 1 => match ff nm (wo nm k) with
  | none => wo nm k
  | some i => wo nm k ++ [i]
def ord (nm : List (List Nat)) : List Nat:=wo nm nm.length
theorem ff_some {nm : List (List Nat)} {o : List Nat} {i : Nat} (h : ff nm o = some i) : i < nm.length ∧ i ∉ o ∧ (∀ p ∈ nm.getD i [],p ∈ o) ∧ ∀ j,j < i → rdy nm o j = false:=by
 unfold ff at h;rw [List.find?_range_eq_some] at h;obtain ⟨h1,h2,h3⟩:=h;simp only [rdy,Bool.and_eq_true,Bool.not_eq_true',List.contains_eq_mem,decide_eq_false_iff_not,List.all_eq_true,decide_eq_true_eq] at h1;refine ⟨by simpa using h2,h1.1,h1.2,fun j hj => by simpa using h3 j hj⟩
theorem ff_none {nm : List (List Nat)} {o : List Nat} (h : ff nm o = none) {j : Nat} (hj : j < nm.length) : rdy nm o j = false:=by
 unfold ff at h;rw [List.find?_eq_none] at h
 simpa using h j (by simpa using hj)
theorem ff_of {nm : List (List Nat)} {o : List Nat} {i : Nat} (hi : i < nm.length) (h1 : rdy nm o i = true) (h2 : ∀ j,j < i → rdy nm o j = false) : ff nm o = some i:=by
 unfold ff;rw [List.find?_range_eq_some];exact ⟨h1,by simpa using hi,fun j hj => by simp [h2 j hj]⟩
theorem ff_no {nm : List (List Nat)} {o : List Nat} (h : ∀ j,j < nm.length → rdy nm o j = false) : ff nm o = none:=by
 unfold ff;rw [List.find?_eq_none];intro x hx;simp [h x (by simpa using hx)]
theorem wo_some {nm : List (List Nat)} {k i : Nat} (h : ff nm (wo nm k) = some i) : wo nm (k + 1) = wo nm k ++ [i]:=by simp [wo,h]
theorem wo_none {nm : List (List Nat)} {k : Nat} (h : ff nm (wo nm k) = none) : ∀ m,k ≤ m → wo nm m = wo nm k:=by
 intro m hm
 induction m with
 | zero => rw [show k = 0 by omega]
 | succ m ih =>
  by_cases e : k = m + 1
  ·rw [e]
  ·have:=ih (by omega)
   simp only [wo];rw [this,h]
theorem wo_lt (nm : List (List Nat)) (k : Nat) : ∀ i ∈ wo nm k,i < nm.length:=by
 induction k with
 | zero => simp [wo]
 | succ k ih =>
  cases h : ff nm (wo nm k) with
  | none => rw [wo_none h (k + 1) (by omega)];exact ih
  | some j =>
   rw [wo_some h];intro i hi
   rcases List.mem_append.1 hi with g | g
   ·exact ih i g
   ·simp at g;subst g;exact (ff_some h).1
theorem wo_nodup (nm : List (List Nat)) (k : Nat) : (wo nm k).Nodup:=by
 induction k with
 | zero => simp [wo]
 | succ k ih =>
  cases h : ff nm (wo nm k) with
  | none => rw [wo_none h (k + 1) (by omega)];exact ih
  | some j =>
   rw [wo_some h,List.nodup_append];refine ⟨ih,by simp,?_⟩;intro a ha b hb;simp at hb;subst hb;intro e;subst e;exact (ff_some h).2.1 ha
theorem pigeon : ∀ (n : Nat) (f : Nat → Nat),(∀ i,i ≤ n → f i < n) → ∃ a b,a < b ∧ b ≤ n ∧ f a = f b:=by
 intro n
 induction n with
 | zero => intro f h;have:=h 0 (by omega);omega
 | succ n ih =>
  intro f h
  by_cases e : ∃ a,a ≤ n ∧ f a = f (n + 1)
  ·obtain ⟨a,h1,h2⟩:=e
   exact ⟨a,n + 1,by omega,by omega,h2⟩
  ·have e : ∀ a,a ≤ n → f a ≠ f (n + 1):=fun a ha he => e ⟨a,ha,he⟩
   have hv:=h (n + 1) (by omega)
   obtain ⟨a,b,h1,h2,h3⟩:=ih (fun a => if f a = n then f (n + 1) else f a) (by
    intro i hi;have:=h i (by omega);have:=e i hi
    show (if f i = n then f (n + 1) else f i) < n
    split <;> omega)
   refine ⟨a,b,h1,by omega,?_⟩;have ea:=e a (by omega);have eb:=e b (by omega)
   split at h3 <;> split at h3 <;> first | omega | (exact (eb h3.symm).elim) | (exact (ea h3).elim) | exact h3
theorem nodup_len (l : List Nat) (n : Nat) (hn : l.Nodup) (hl : ∀ i ∈ l,i < n) : l.length ≤ n:=by
 rcases Nat.lt_or_ge n l.length with g | g
 ·exfalso
  obtain ⟨a,b,h1,h2,h3⟩:=pigeon n (fun i => l.getD i 0) (by
   intro i hi;have : i < l.length:=by omega
   simp only [List.getD_eq_getElem?_getD,List.getElem?_eq_getElem this,Option.getD_some]
   exact hl _ (List.getElem_mem _))
  have ha : a < l.length:=by omega
  have hb : b < l.length:=by omega
  simp only [List.getD_eq_getElem?_getD,List.getElem?_eq_getElem ha,List.getElem?_eq_getElem hb,Option.getD_some] at h3;have:=(List.getElem_inj hn).1 h3;omega
 ·exact g
theorem wo_len (nm : List (List Nat)) (k : Nat) : (wo nm k).length ≤ nm.length:=nodup_len _ _ (wo_nodup nm k) (wo_lt nm k)
theorem wo_count (nm : List (List Nat)) (k : Nat) (h : ff nm (wo nm k) ≠ none) : (wo nm k).length = k ∧ k < nm.length:=by
 have h2 : (wo nm k).length = k:=by
  have : ∀ m,m ≤ k → (wo nm m).length = m:=by
   intro m
   induction m with
   | zero => intro _;rfl
   | succ m ih =>
    intro hm
    cases e : ff nm (wo nm m) with
    | none => exact absurd (by rw [wo_none e k (by omega)];exact e) h
    | some i => rw [wo_some e];simp [ih (by omega)]
  exact this k (Nat.le_refl _)
 refine ⟨h2,?_⟩
 cases e : ff nm (wo nm k) with
 | none => exact absurd e h
 | some i =>
  have h3:=wo_len nm (k + 1);rw [wo_some e] at h3;simp at h3;omega
theorem ord_of {nm : List (List Nat)} {k : Nat} (h : ff nm (wo nm k) = none) (hk : k ≤ nm.length) : ord nm = wo nm k:=wo_none h _ hk
theorem ord_stuck (nm : List (List Nat)) : ff nm (ord nm) = none:=by
 cases h : ff nm (ord nm) with
 | none => rfl
 | some i =>
  have:=(wo_count nm nm.length (by unfold ord at h;rw [h];simp)).2;omega
theorem stuck_circle {nm : List (List Nat)} (ho : Oneful nm) {o : List Nat} (h : ff nm o = none) {i : Nat} (hi : i < nm.length) (hn : i ∉ o) : ∃ j L,j < nm.length ∧ First (sc nm) j j L:=by
 have step : ∀ a,a < nm.length → a ∉ o → ∃ p,sc nm a = some p ∧ p < nm.length ∧ p ∉ o:=by
  intro a ha hb;have hr:=ff_none h ha
  rcases ho.at ha with ⟨e,_⟩ | ⟨p,hp,e,es⟩
  ·exfalso
   simp [rdy,List.getD_eq_getElem?_getD,e,hb] at hr
  ·refine ⟨p,es,hp,?_⟩
   simpa [rdy,List.getD_eq_getElem?_getD,e,hb] using hr
 have all : ∀ t,∃ p,it (sc nm) t i = some p ∧ p < nm.length ∧ p ∉ o:=by
  intro t
  induction t with
  | zero => exact ⟨i,rfl,hi,hn⟩
  | succ t ih =>
   obtain ⟨p,h1,h2,h3⟩:=ih;obtain ⟨q,k1,k2,k3⟩:=step p h2 h3;exact ⟨q,by simp [it,h1,k1],k2,k3⟩
 obtain ⟨a,b,h1,h2,h3⟩:=pigeon nm.length (fun t => (it (sc nm) t i).getD 0) (by
  intro t _;obtain ⟨p,e,hp,_⟩:=all t;simp only [e,Option.getD_some]
  exact hp)
 obtain ⟨p,e,hp,_⟩:=all a;obtain ⟨q,e2,hq,_⟩:=all b;simp only [e,e2,Option.getD_some] at h3;subst h3
 have hb : it (sc nm) (b - a) p = some p:=by
  rw [show b = a + (b - a) by omega,it_add,e] at e2;exact e2
 obtain ⟨L,f⟩:=First.of (by omega) hb;exact ⟨p,L,hp,f⟩
theorem done_free {nm : List (List Nat)} (ho : Oneful nm) (k : Nat) : (∀ i ∈ wo nm k,∀ p,sc nm i = some p → p ∈ wo nm k) ∧ ∀ i ∈ wo nm k,∀ t,it (sc nm) (t + 1) i ≠ some i:=by
 induction k with
 | zero => simp [wo]
 | succ k ih =>
  obtain ⟨cl,fr⟩:=ih
  cases h : ff nm (wo nm k) with
  | none => rw [wo_none h (k + 1) (by omega)];exact ⟨cl,fr⟩
  | some j =>
   rw [wo_some h];obtain ⟨hj,hn,hp,_⟩:=ff_some h
   have cj : ∀ p,sc nm j = some p → p ∈ wo nm k:=by
    intro p e
    rcases ho.at hj with ⟨_,e2⟩ | ⟨q,_,e2,e3⟩
    ·rw [e2] at e;cases e
    ·rw [e3] at e
     have e:=Option.some.inj e;subst e;exact hp q (by simp [List.getD_eq_getElem?_getD,e2])
   have away : ∀ t p q,p ∈ wo nm k → it (sc nm) t p = some q → q ∈ wo nm k:=by
    intro t
    induction t with
    | zero => intro p q h1 h2;cases h2;exact h1
    | succ t ih =>
     intro p q h1 h2;rw [it] at h2
     cases e : it (sc nm) t p with
     | none => rw [e] at h2;cases h2
     | some r =>
      rw [e] at h2;exact cl r (ih p r h1 e) q h2
   constructor
   ·intro i hi p e
    rcases List.mem_append.1 hi with g | g
    ·exact List.mem_append.2 (.inl (cl i g p e))
    ·simp at g;subst g
     exact List.mem_append.2 (.inl (cj p e))
   ·intro i hi t
    rcases List.mem_append.1 hi with g | g
    ·exact fr i g t
    ·simp at g;subst g
     intro e;rw [it_front] at e
     cases es : sc nm i with
     | none => rw [es] at e;cases e
     | some p =>
      rw [es] at e;exact hn (away t p i (cj p es) e)
theorem ord_all {nm : List (List Nat)} (ho : Oneful nm) {b : List Nat} (hb : Bst (sc nm) nm.length b) : b = [] ↔ (ord nm).length = nm.length:=by
 rw [hb.none];constructor
 ·intro a
  have hall : ∀ i,i < nm.length → i ∈ ord nm:=by
   intro i hi
   by_cases e : i ∈ ord nm
   ·exact e
   ·obtain ⟨j,L,hj,f⟩:=stuck_circle ho (ord_stuck nm) hi e
    exact (a j hj L f).elim
  have h1:=wo_len nm nm.length
  have h2 : nm.length ≤ (ord nm).length:=by
   rcases Nat.lt_or_ge (ord nm).length nm.length with g | g
   ·exfalso
    obtain ⟨x,y,h1,h2,h3⟩:=pigeon (ord nm).length (fun i => (ord nm).idxOf i) (by
     intro i hi
     exact List.idxOf_lt_length_of_mem (hall i (by omega)))
    have e1:=List.getElem_idxOf (x:=x) (List.idxOf_lt_length_of_mem (hall x (by omega)));have e2:=List.getElem_idxOf (x:=y) (List.idxOf_lt_length_of_mem (hall y (by omega)));simp only [h3] at e1;omega
   ·exact g
  exact Nat.le_antisymm h1 h2
 ·intro a i hi L f
  have hin : i ∈ ord nm:=by
   by_cases e : i ∈ ord nm
   ·exact e
   ·exfalso
    have:=nodup_len (i :: ord nm) nm.length (List.nodup_cons.2 ⟨e,wo_nodup _ _⟩) (by
     intro x hx
     rcases List.mem_cons.1 hx with g | g
     ·omega
     ·exact wo_lt _ _ x g)
    simp at this;omega
  have:=(done_free ho nm.length).2 i hin (L - 1);rw [show L - 1 + 1 = L by have:=f.1;omega] at this;exact this f.2.1
def at' (s : ByteArray) (i : Nat) : Nat:=(s.get! i).toNat
def isAscii (c : Nat) : Bool:=decide ((97 ≤ c ∧ c ≤ 122) ∨ (65 ≤ c ∧ c ≤ 90) ∨ c = 95)
def isFar (r : Nat) : Bool:=decide ((192 ≤ r ∧ r ≤ 591 ∧ r ≠ 215 ∧ r ≠ 247) ∨ (913 ≤ r ∧ r ≤ 969) ∨ (1040 ≤ r ∧ r ≤ 1103))
def isDigit (c : Nat) : Bool:=decide (48 ≤ c ∧ c ≤ 57)
def letN (s : ByteArray) (i : Nat) : Nat :=
 if isAscii (at' s i) = true then 1
 else if 194 ≤ at' s i ∧ at' s i ≤ 223 ∧ i + 1 < s.size ∧ 128 ≤ at' s (i + 1) ∧ at' s (i + 1) ≤ 191 then
  if isFar ((at' s i - 192) * 64 + (at' s (i + 1) - 128)) = true then 2 else 0
 else 0
def stepN (s : ByteArray) (i : Nat) : Nat :=
 if letN s i = 0 then (if 0 < i ∧ isDigit (at' s i) = true then 1 else 0) else letN s i
def endOf (s : ByteArray) : Nat → Nat → Nat
 | 0,i => i
 | f + 1,i => if i < s.size ∧ stepN s i ≠ 0 then endOf s f (i + stepN s i) else i
def nameB (s : ByteArray) : Bool:=decide (0 < s.size ∧ s.size ≤ 40 ∧ endOf s s.size 0 = s.size)
def runeB (r : Nat) : Bool:=isAscii r || isFar r
def fitsB (i r : Nat) : Bool:=runeB r || (decide (0 < i) && isDigit r)
theorem at_lt (s : ByteArray) (i : Nat) : at' s i < 256:=by unfold at';exact UInt8.toNat_lt _
theorem get_eq (s : ByteArray) (i : Nat) (h : i < s.size) : at' s i = (s[i]'h).toNat:=by
 have:=get_at s i h;simp only [Nat.add_zero] at this;unfold at';rw [this]
theorem letN_le (s : ByteArray) (i : Nat) (h : i < s.size) : i + letN s i ≤ s.size:=by
 unfold letN
 split
 ·omega
 ·split
  ·split <;> omega
  ·omega
theorem stepN_le (s : ByteArray) (i : Nat) (h : i < s.size) : i + stepN s i ≤ s.size:=by
 have:=letN_le s i h;unfold stepN
 split
 ·split <;> omega
 ·omega
theorem fits_big (i r : Nat) (h : 1104 ≤ r) : fitsB i r = false:=by
 have h1 : isAscii r = false:=df (by omega);have h2 : isFar r = false:=df (by omega);have h3 : isDigit r = false:=df (by omega);simp [fitsB,runeB,h1,h2,h3]
theorem step_none (s : ByteArray) (i : Nat) (h : 128 ≤ at' s i)
  (hn : ¬ (194 ≤ at' s i ∧ at' s i ≤ 223 ∧ i + 1 < s.size ∧ 128 ≤ at' s (i + 1) ∧ at' s (i + 1) ≤ 191)) : stepN s i = 0:=by
 have h1 : isAscii (at' s i) = false:=df (by omega);have h3 : isDigit (at' s i) = false:=df (by omega);simp [stepN,letN,h1,h3,hn]
def SameD (s : ByteArray) (i : Nat) (p : Nat × Nat) : Prop:=(fitsB i p.1 = true → stepN s i = p.2) ∧ (fitsB i p.1 = false → stepN s i = 0)
theorem same_none (s : ByteArray) (i : Nat) (p : Nat × Nat) (hp : 1104 ≤ p.1) (h : stepN s i = 0) : SameD s i p :=
  ⟨fun e => absurd ((fits_big i p.1 hp).symm.trans e) (by decide),fun _ => h⟩
theorem same_ite (s : ByteArray) (i : Nat) (c : Prop) [Decidable c] (p q : Nat × Nat) (h1 : c → SameD s i p) (h2 : ¬ c → SameD s i q) : SameD s i (if c then p else q):=by
 by_cases h : c
 ·rw [if_pos h];exact h1 h
 ·rw [if_neg h];exact h2 h
theorem fits_step (s : ByteArray) (i : Nat) : SameD s i (Utf8.decode s i):=by
 have b0:=at_lt s i;have b1:=at_lt s (i + 1);have e0 : (s.get! (i + 0)).toNat = at' s i:=rfl;have e1 : (s.get! (i + 1)).toNat = at' s (i + 1):=rfl;have hn:=step_none s i;simp only [Utf8.decode,e0,e1];refine same_ite s i _ _ _ (fun h => ?_) (fun h => ?_)
 ·have h2 : isFar (at' s i) = false:=df (by omega)
  have h4 : ¬ (194 ≤ at' s i ∧ at' s i ≤ 223 ∧ i + 1 < s.size ∧ 128 ≤ at' s (i + 1) ∧ at' s (i + 1) ≤ 191):=by omega
  unfold SameD fitsB runeB stepN letN;rw [h2,if_neg h4]
  cases isAscii (at' s i) <;> cases isDigit (at' s i) <;> simp
  omega
 refine same_ite s i _ _ _ (fun h1 => ?_) (fun h1 => ?_)
 ·simp at h1
  refine same_ite s i _ _ _ (fun h2 => ?_) (fun h2 => ?_)
  ·have h3 : isDigit (at' s i) = false:=df (by omega)
   have h5 : isAscii (at' s i) = false:=df (by omega);have h4 : 194 ≤ at' s i ∧ at' s i ≤ 223 ∧ i + 1 < s.size ∧ 128 ≤ at' s (i + 1) ∧ at' s (i + 1) ≤ 191:=by omega
   have e : at' s i % 32 * 64 + at' s (i + 1) % 64 = (at' s i - 192) * 64 + (at' s (i + 1) - 128):=by omega
   unfold SameD fitsB runeB stepN letN;rw [if_pos h4,h5,h3]
   show (_ → _ = 2) ∧ _
   rw [e];have h6 : isAscii ((at' s i - 192) * 64 + (at' s (i + 1) - 128)) = false:=df (by omega);have h7 : isDigit ((at' s i - 192) * 64 + (at' s (i + 1) - 128)) = false:=df (by omega);rw [h6,h7]
   cases isFar ((at' s i - 192) * 64 + (at' s (i + 1) - 128)) <;> simp
  ·exact same_none s i _ (by simp [Utf8.runeError]) (hn (by omega) (by omega))
 have hz : stepN s i = 0:=by
  refine hn (by omega) ?_;simp at h1;omega
 refine same_ite s i _ _ _ (fun h2 => ?_) (fun h2 => ?_)
 ·refine same_ite s i _ _ _ (fun h3 => ?_) (fun h3 => ?_)
  ·refine same_none s i _ ?_ hz
   simp at h3 ⊢;omega
  ·exact same_none s i _ (by simp [Utf8.runeError]) hz
 refine same_ite s i _ _ _ (fun h3 => ?_) (fun h3 => ?_)
 ·refine same_ite s i _ _ _ (fun h4 => ?_) (fun h4 => ?_)
  ·refine same_none s i _ ?_ hz
   simp at h4 ⊢;omega
  ·exact same_none s i _ (by simp [Utf8.runeError]) hz
 exact same_none s i _ (by simp [Utf8.runeError]) hz
theorem endOf_ge (s : ByteArray) (f i : Nat) (h : ¬ i < s.size) : endOf s f i = i:=by
 cases f with
 | zero => rfl
 | succ f => simp [endOf,h]
theorem endOf_stop (s : ByteArray) (f i : Nat) (h : stepN s i = 0) : endOf s f i = i:=by
 cases f with
 | zero => rfl
 | succ f => simp [endOf,h]
theorem endOf_step (s : ByteArray) (f i : Nat) (h : i < s.size) (hf : s.size ≤ i + f) (hs : stepN s i ≠ 0) :
  endOf s f i = endOf s (f - 1) (i + stepN s i) ∧ s.size ≤ i + stepN s i + (f - 1):=by
 cases f with
 | zero => omega
 | succ f => exact ⟨by simp [endOf,h,hs],by omega⟩
def RSteps (P : Program) (ops : Array Oper) (Q : Exit → Act → World → Prop) (I : Array Bool → Act → World → Prop) (listed : Array Bool) (a : Act) (w : World) : Nat → List Oper → Prop
 | _,[] => True
 | i,o :: rest => (listed.getD i true = false → (o.after.all fun e => !Region.binds .any e || listed.getD e.on false) = true →
   ∀ K' : Act → World → Prop,Hid (∀ a' w',I (listed.setIfInBounds i true) a' w' → K' a' w') → if Region.wanted o (yielded ops a.tmps) = true then Oper.wp P o a w K' Q else K' (a.put o.dst undef) w) ∧ RSteps P ops Q I listed a w (i + 1) rest
section
variable {P : Program} {ops : Array Oper} {Q : Exit → Act → World → Prop} {I : Array Bool → Act → World → Prop}
theorem RSteps.at {listed : Array Bool} {a : Act} {w : World} : ∀ (l : List Oper) (k i : Nat) (o : Oper),RSteps P ops Q I listed a w k l → l[i]? = some o → listed.getD (k + i) true = false →
  (o.after.all fun e => !Region.binds .any e || listed.getD e.on false) = true →
  ∀ K' : Act → World → Prop,Hid (∀ a' w',I (listed.setIfInBounds (k + i) true) a' w' → K' a' w') → if Region.wanted o (yielded ops a.tmps) = true then Oper.wp P o a w K' Q else K' (a.put o.dst undef) w:=by
 intro l
 induction l with
 | nil => intro k i o _ h;simp at h
 | cons x l ih =>
  intro k i o h hi
  cases i with
  | zero => simp at hi;subst hi;exact h.1
  | succ i =>
   have:=ih (k + 1) i o h.2 (by simpa using hi);rw [show k + 1 + i = k + (i + 1) by omega] at this;exact this
theorem count_set : ∀ (l : List Bool) (i : Nat),l[i]? = some false → (l.set i true).count false + 1 = l.count false
 | [],i,h => by simp at h
 | x :: l,0,h => by simp at h;subst h;simp
 | x :: l,i + 1,h => by
  have:=count_set l i (by simpa using h);simp only [List.set_cons_succ,List.count_cons];omega
theorem count_none {l : List Bool} (h : l.count false = 0) {i : Nat} (hi : i < l.length) : l[i]? = some true:=by
 rw [List.count_eq_zero] at h;rw [List.getElem?_eq_getElem hi]
 cases hx : l[i] with
 | true => rfl
 | false => exact absurd (hx ▸ List.getElem_mem hi) h
end
/-! ### Blocks of one's own that come one after another,in whatever order -/
abbrev Box:=Bool × Nat × Array Value × TypeId
def boxIs (W : World) (B : Nat) (x : Box) : Prop:=x.1 = true → B ≤ x.2.1 ∧ W.heap[x.2.1]? = some (.cells x.2.2.1 x.2.2.2 (0,0))
def Boxes (W : World) (B : Nat) (l : List Box) : Prop :=
 (∀ (i : Nat) (x : Box),l[i]? = some x → boxIs W B x) ∧ ∀ (i j : Nat) (x y : Box),l[i]? = some x → l[j]? = some y → x.1 = true → y.1 = true → x.2.1 = y.2.1 → i = j
theorem Boxes.below {W W' : World} {B : Nat} {l : List Box} (h : Boxes W B l) (hb : Below W.heap.size W W') : Boxes W' B l:=by
 refine ⟨fun i x hx ht => ⟨(h.1 i x hx ht).1,?_⟩,h.2⟩;have:=(h.1 i x hx ht).2;exact (hb.block _ (Array.getElem?_eq_some_iff.1 this).1).trans this
theorem Boxes.drew {W : World} {B : Nat} {l : List Box} (h : Boxes W B l) : Boxes W.drew B l:=h
theorem Boxes.alloc {W : World} {B : Nat} {l : List Box} (h : Boxes W B l) (o : Obj) : Boxes (W.alloc o) B l:=by
 refine ⟨fun i x hx ht => ⟨(h.1 i x hx ht).1,?_⟩,h.2⟩;have h1:=(h.1 i x hx ht).2;have h2:=(Array.getElem?_eq_some_iff.1 h1).1
 show (W.heap.push o)[x.2.1]? = _
 rw [Array.getElem?_push_lt h2,← h1,Array.getElem?_eq_getElem h2]
theorem Boxes.more {W : World} {B : Nat} {l : List Box} (i : Nat) (h : Boxes W B l) {p : Nat} {cs : Array Value} {t : TypeId} (hi : l[i]? = some (false,p,cs,t)) (hB : B ≤ W.heap.size) :
  Boxes (W.alloc (.cells cs t)) B (l.set i (true,W.heap.size,cs,t)):=by
 have hlt : i < l.length:=(List.getElem?_eq_some_iff.1 hi).1;constructor
 ·intro j x hx
  by_cases hj : i = j
  ·subst hj
   rw [List.getElem?_set_self hlt] at hx
   cases hx
   intro _;refine ⟨hB,?_⟩
   show (W.heap.push _)[W.heap.size]? = _
   rw [Array.getElem?_push_size]
  ·rw [List.getElem?_set_ne hj] at hx
   exact (h.alloc _).1 j x hx
 ·have old : ∀ (j : Nat) (x : Box),l[j]? = some x → x.1 = true → x.2.1 < W.heap.size:=fun j x hx ht => (Array.getElem?_eq_some_iff.1 (h.1 j x hx ht).2).1
  intro j k x y hx hy tx ty he
  by_cases hj : i = j <;> by_cases hk : i = k
  ·omega
  ·subst hj
   rw [List.getElem?_set_self hlt] at hx;rw [List.getElem?_set_ne hk] at hy
   cases hx
   have:=old k y hy ty;simp at he;omega
  ·subst hk
   rw [List.getElem?_set_self hlt] at hy;rw [List.getElem?_set_ne hj] at hx
   cases hy
   have:=old j x hx tx;simp at he;omega
  ·rw [List.getElem?_set_ne hj] at hx
   rw [List.getElem?_set_ne hk] at hy;exact h.2 j k x y hx hy tx ty he
theorem Boxes.put {W : World} {B : Nat} {l : List Box} (i : Nat) (h : Boxes W B l) {p : Nat} {cs : Array Value} {t : TypeId} (hi : l[i]? = some (true,p,cs,t)) (o : Nat) (v : Value) :
  Boxes (W.setCell ⟨p,o,none⟩ v) B (l.set i (true,p,cs.setIfInBounds o v,t)):=by
 have hlt : i < l.length:=(List.getElem?_eq_some_iff.1 hi).1;have hs:=h.1 i _ hi rfl;have hp:=(Array.getElem?_eq_some_iff.1 hs.2).1;constructor
 ·intro j x hx
  by_cases hj : i = j
  ·subst hj
   rw [List.getElem?_set_self hlt] at hx
   cases hx
   intro _;refine ⟨hs.1,?_⟩
   show (W.heap.modify p _)[p]? = _
   rw [Array.getElem?_modify,if_pos rfl,hs.2];rfl
  ·rw [List.getElem?_set_ne hj] at hx
   intro ht;refine ⟨(h.1 j x hx ht).1,?_⟩;have hne : p ≠ x.2.1:=fun e => hj (h.2 i j _ x hi hx rfl ht e)
   show (W.heap.modify p _)[x.2.1]? = _
   rw [Array.getElem?_modify,if_neg hne];exact (h.1 j x hx ht).2
 ·intro j k x y hx hy tx ty he
  have back : ∀ (j : Nat) (x : Box),(l.set i (true,p,cs.setIfInBounds o v,t))[j]? = some x → ∃ x',l[j]? = some x' ∧ x'.1 = x.1 ∧ x'.2.1 = x.2.1:=by
   intro j x hx
   by_cases hj : i = j
   ·subst hj
    rw [List.getElem?_set_self hlt] at hx
    cases hx
    exact ⟨_,hi,rfl,rfl⟩
   ·rw [List.getElem?_set_ne hj] at hx
    exact ⟨x,hx,rfl,rfl⟩
  obtain ⟨x',hx',a1,a2⟩:=back j x hx;obtain ⟨y',hy',c1,c2⟩:=back k y hy;exact h.2 j k x' y' hx' hy' (a1.trans tx) (c1.trans ty) (a2.trans (he.trans c2.symm))
theorem Boxes.cell {W : World} {B : Nat} {l : List Box} (i : Nat) (h : Boxes W B l) {p : Nat} {cs : Array Value} {t : TypeId} (hi : l[i]? = some (true,p,cs,t)) (o : Nat) {v : Value} (hv : cs[o]? = some v) : W.cell? ⟨p,o,none⟩ = some v:=by
 have hs:=(h.1 i _ hi rfl).2;simp only [World.cell?];rw [hs];exact hv
theorem Boxes.frozen {W : World} {B : Nat} {l : List Box} (i : Nat) (h : Boxes W B l) {p : Nat} {cs : Array Value} {t : TypeId} (hi : l[i]? = some (true,p,cs,t)) (o : Nat) : W.frozen? ⟨p,o,none⟩ = false:=by
 have hs:=(h.1 i _ hi rfl).2;simp only [World.frozen?];rw [hs];simp
theorem Boxes.le {W : World} {B : Nat} {l : List Box} (i : Nat) (h : Boxes W B l) {p : Nat} {cs : Array Value} {t : TypeId} (hi : l[i]? = some (true,p,cs,t)) : B ≤ p ∧ p < W.heap.size :=
  ⟨(h.1 i _ hi rfl).1,(Array.getElem?_eq_some_iff.1 (h.1 i _ hi rfl).2).1⟩
def IntsAt (w : World) (b off : Nat) (L : List Int) : Prop:=∀ (j : Nat) (x : Int),L[j]? = some x → w.cell? ⟨b,off + j,none⟩ = some (.int .i64 x)
def iblk (w : World) (g t : Nat) (L : List Int) : Prop:=w.heap[g]? = some (.cells (L.map (Value.int .i64)).toArray t (0,0))
theorem iblk.cell {w : World} {g t : Nat} {L : List Int} (h : iblk w g t L) {m : Nat} {x : Int} (hx : L[m]? = some x) : w.cell? ⟨g,m,none⟩ = some (.int .i64 x):=by
 simp only [World.cell?];rw [h];simp [hx]
theorem iblk.lt {w : World} {g t : Nat} {L : List Int} (h : iblk w g t L) : g < w.heap.size:=(Array.getElem?_eq_some_iff.1 h).1
theorem iblk.frozen {w : World} {g t : Nat} {L : List Int} (h : iblk w g t L) (o : Nat) : w.frozen? ⟨g,o,none⟩ = false:=by
 simp only [World.frozen?];rw [h];simp
theorem iblk.below {B : Nat} {w w' : World} {g t : Nat} {L : List Int} (h : iblk w g t L) (hb : Below B w w') (hg : g < B) : iblk w' g t L:=(hb.block g hg).trans h
theorem iblk.bel {w w' : World} {g t : Nat} {L : List Int} (h : iblk w g t L) (hb : Below w.heap.size w w') : iblk w' g t L:=h.below hb h.lt
theorem iblk.set {w : World} {g t : Nat} {L : List Int} (h : iblk w g t L) (m : Nat) (x : Int) : iblk (w.setCell ⟨g,m,none⟩ (.int .i64 x)) g t (L.set m x):=by
 show (w.heap.modify g _)[g]? = _
 rw [Array.getElem?_modify,if_pos rfl,h];simp [List.map_set]
theorem IntsAt.below {B : Nat} {w w' : World} {b off : Nat} {L : List Int} (h : IntsAt w b off L) (hb : Below B w w') (hB : b < B) : IntsAt w' b off L :=
  fun j x hj => (hb.cell (p:=⟨b,_,none⟩) hB).trans (h j x hj)
theorem IntsAt.at {w : World} {b off : Nat} {L : List Int} (h : IntsAt w b off L) {k i f : Nat} {x : Int} (hj : L[i * k + f]? = some x) : w.cell? ⟨b,off + i * k + f,none⟩ = some (.int .i64 x):=by
 have:=h (i * k + f) x hj;rw [← Nat.add_assoc] at this;exact this
structure Same (w w' : World) : Prop where
 os : w'.os = w.os
 tape : w'.tape = w.tape
 output : w'.output = w.output
 heap : w'.heap = w.heap
theorem Same.refl (w : World) : Same w w:=⟨rfl,rfl,rfl,rfl⟩
theorem Same.drew {a w : World} (h : Same a w) : Same a w.drew:=⟨h.os,h.tape,h.output,h.heap⟩
theorem Same.trans {a b c : World} (h : Same a b) (k : Same b c) : Same a c:=⟨k.os.trans h.os,k.tape.trans h.tape,k.output.trans h.output,k.heap.trans h.heap⟩
theorem Same.bel {B : Nat} {w w' : World} (h : Same w w') : Below B w w':=⟨h.os,h.tape,h.output,Nat.le_of_eq (by rw [h.heap]),fun k _ => by rw [h.heap]⟩
theorem Same.cell {w w' : World} (h : Same w w') (a : Addr) : w'.cell? a = w.cell? a:=by simp only [World.cell?,h.heap]
theorem Same.iblk {w w' : World} (h : Same w w') {g t : Nat} {L : List Int} (k : iblk w g t L) : iblk w' g t L:=by unfold Go.Proofs.YtkiplmabjeadgaaGreat.iblk;rw [h.heap];exact k
structure But (g : Nat) (w w' : World) : Prop where
 os : w'.os = w.os
 tape : w'.tape = w.tape
 output : w'.output = w.output
 size : w.heap.size = w'.heap.size
 block : ∀ k,k ≠ g → w'.heap[k]? = w.heap[k]?
theorem But.refl (g : Nat) (w : World) : But g w w:=⟨rfl,rfl,rfl,rfl,fun _ _ => rfl⟩
theorem But.trans {g : Nat} {a b c : World} (h : But g a b) (k : But g b c) : But g a c :=
  ⟨k.os.trans h.os,k.tape.trans h.tape,k.output.trans h.output,h.size.trans k.size,fun i hi => (k.block i hi).trans (h.block i hi)⟩
theorem But.drew {g : Nat} {a w : World} (h : But g a w) : But g a w.drew:=⟨h.os,h.tape,h.output,h.size,h.block⟩
theorem But.setCell {g : Nat} {a w : World} (h : But g a w) (o : Nat) (u : Value) : But g a (w.setCell ⟨g,o,none⟩ u) :=
 h.trans ⟨rfl,rfl,rfl,by simp [World.setCell],fun k hk => Below.heap_setCell _ _ _ _ hk⟩
theorem But.bel {g B : Nat} {w w' : World} (h : But g w w') (hB : B ≤ g) : Below B w w' :=
  ⟨h.os,h.tape,h.output,Nat.le_of_eq h.size,fun k hk => h.block k (by omega)⟩
end Go.Proofs.YtkiplmabjeadgaaGreat
