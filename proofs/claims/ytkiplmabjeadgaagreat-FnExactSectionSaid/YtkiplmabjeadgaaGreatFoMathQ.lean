/- Features: what they are, when one is right, in which order faults of a list are told. -/
import Derived.ProofKit
import Derived.Laws.RangeAny
import Derived.Test.YtkiplmabjeadgaaGreatBaseQ
namespace Go.Proofs.YtkiplmabjeadgaaGreat
set_option maxRecDepth 100000
set_option maxHeartbeats 16000000
def it (s : Nat → Option Nat) : Nat → Nat → Option Nat
 | 0, i => some i
 | t + 1, i => (it s t i).bind s
theorem it_front (s : Nat → Option Nat) (t i : Nat) : it s (t + 1) i = (s i).bind (it s t) := by
 induction t generalizing i with
 | zero => simp only [it, Option.bind_some]; cases s i <;> rfl
 | succ t ih =>
  rw [it, ih]
  cases h : s i with
  | none => rfl
  | some j => rfl
theorem it_add (s : Nat → Option Nat) (t u i : Nat) : it s (t + u) i = (it s t i).bind (it s u) := by
 induction t generalizing i with
 | zero => simp [it]
 | succ t ih =>
  rw [show t + 1 + u = t + u + 1 by omega, it_front, it_front]
  cases s i with
  | none => rfl
  | some j => simp only [Option.bind_some]; exact ih j
theorem it_none {s : Nat → Option Nat} {t i : Nat} (h : it s t i = none) {u : Nat} (hu : t ≤ u) : it s u i = none := by
 obtain ⟨k, rfl⟩ := Nat.exists_eq_add_of_le hu;rw [it_add, h]; rfl
def First (s : Nat → Option Nat) (i j L : Nat) : Prop := 0 < L ∧ it s L i = some j ∧ ∀ t, 0 < t → t < L → it s t i ≠ some j
theorem First.uniq {s : Nat → Option Nat} {i j L M : Nat} (h : First s i j L) (k : First s i j M) : L = M := by
 rcases Nat.lt_trichotomy L M with e | e | e
 ·exact absurd h.2.1 (k.2.2 L h.1 e)
 ·exact e
 ·exact absurd k.2.1 (h.2.2 M k.1 e)
theorem First.one {s : Nat → Option Nat} {i j : Nat} (h : s i = some j) : First s i j 1 := ⟨by omega, by rw [it_front, h]; rfl, fun t h1 h2 => by omega⟩
theorem First.more {s : Nat → Option Nat} {i r j L : Nat} (h : s i = some r) (hr : r ≠ j) (f : First s r j L) : First s i j (L + 1) := by
 refine ⟨by omega, by rw [it_front, h]; exact f.2.1, fun t h1 h2 => ?_⟩
 obtain ⟨u, rfl⟩ : ∃ u, t = u + 1 := ⟨t - 1, by omega⟩
 rw [it_front, h];simp only [Option.bind_some]
 cases u with
 | zero => simp only [it, ne_eq, Option.some.injEq]; exact hr
 | succ u => exact f.2.2 (u + 1) (by omega) (by omega)
theorem First.back {s : Nat → Option Nat} {i r j L : Nat} (f : First s i j L) (h : s i = some r) : (r = j ∧ L = 1) ∨ (r ≠ j ∧ 1 < L ∧ First s r j (L - 1)) := by
 by_cases e : r = j
 ·exact .inl ⟨e, f.uniq (.one (e ▸ h))⟩
 ·right
  have h1 : 1 < L := by
   rcases Nat.lt_or_ge 1 L with g | g
   ·exact g
   ·have : L = 1 := by have := f.1; omega
    subst this;have := f.2.1;rw [it_front, h] at this;exact absurd (Option.some.inj this) e
  refine ⟨e, h1, by omega, ?_, fun t t0 t1 => ?_⟩
  ·have := f.2.1
   rw [show L = L - 1 + 1 by omega, it_front, h] at this;exact this
  ·have := f.2.2 (t + 1) (by omega) (by omega)
   rw [it_front, h] at this;exact this
theorem First.no {s : Nat → Option Nat} {i j L : Nat} (f : First s i j L) (h : s i = none) : False := by
 have := f.2.1;rw [show L = L - 1 + 1 by have := f.1; omega, it_front, h] at this
 cases this
theorem First.rest {s : Nat → Option Nat} {i j L : Nat} (f : First s i j L) {t : Nat} (h : t < L) : ∃ p, it s t i = some p ∧ First s p j (L - t) := by
 induction t with
 | zero => exact ⟨i, rfl, by simpa using f⟩
 | succ t ih =>
  obtain ⟨p, hp, g⟩ := ih (by omega)
  cases hs : s p with
  | none => exact (g.no hs).elim
  | some r =>
   rcases g.back hs with ⟨_, e⟩ | ⟨_, _, g1⟩
   ·omega
   ·exact ⟨r, by simp [it, hp, hs], by rw [show L - (t + 1) = L - t - 1 by omega]; exact g1⟩
theorem First.of {s : Nat → Option Nat} {i j : Nat} : ∀ {t : Nat}, 0 < t → it s t i = some j → ∃ L, First s i j L := by
 intro t
 induction t using Nat.strongRecOn with
 | _ t ih =>
  intro h0 h
  by_cases e : ∃ u, 0 < u ∧ u < t ∧ it s u i = some j
  ·obtain ⟨u, u0, u1, hu⟩ := e
   exact ih u u1 u0 hu
  ·exact ⟨t, h0, h, fun u u0 u1 hu => e ⟨u, u0, u1, hu⟩⟩
def path (s : Nat → Option Nat) : Nat → Nat → List Nat
 | 0, _ => []
 | L + 1, i => path s L i ++ [(it s L i).getD 0]
theorem path_len (s : Nat → Option Nat) (L i : Nat) : (path s L i).length = L := by
 induction L with
 | zero => rfl
 | succ L ih => simp [path, ih]
def Cyc (s : Nat → Option Nat) (i : Nat) (c : List Nat) : Prop := (∃ L, First s i i L ∧ c = path s L i) ∨ ((∀ L, ¬ First s i i L) ∧ c = [])
theorem Cyc.uniq {s : Nat → Option Nat} {i : Nat} {c d : List Nat} (h : Cyc s i c) (k : Cyc s i d) : c = d := by
 rcases h with ⟨L, f, rfl⟩ | ⟨n, rfl⟩ <;> rcases k with ⟨M, g, rfl⟩ | ⟨m, rfl⟩
 ·rw [f.uniq g]
 ·exact (m _ f).elim
 ·exact (n _ g).elim
 ·rfl
def better (b c : List Nat) : List Nat := if 0 < c.length ∧ (b.length = 0 ∨ c.length < b.length) then c else b
def Bst (s : Nat → Option Nat) : Nat → List Nat → Prop
 | 0, b => b = []
 | k + 1, b => ∃ b0 c, Bst s k b0 ∧ Cyc s k c ∧ b = better b0 c
theorem Bst.uniq {s : Nat → Option Nat} {n : Nat} {b d : List Nat} (h : Bst s n b) (k : Bst s n d) : b = d := by
 induction n generalizing b d with
 | zero => rw [show b = [] from h, show d = [] from k]
 | succ n ih =>
  obtain ⟨b0, c, h1, h2, rfl⟩ := h;obtain ⟨d0, e, k1, k2, rfl⟩ := k;rw [ih h1 k1, h2.uniq k2]
theorem Bst.none {s : Nat → Option Nat} {n : Nat} {b : List Nat} (h : Bst s n b) : b = [] ↔ ∀ i, i < n → ∀ L, ¬ First s i i L := by
 induction n generalizing b with
 | zero => exact ⟨fun _ i hi => by omega, fun _ => h⟩
 | succ n ih =>
  obtain ⟨b0, c, h1, h2, rfl⟩ := h;have k := ih h1
  rcases h2 with ⟨L, f, rfl⟩ | ⟨m, rfl⟩
  ·constructor
   ·intro e
    unfold better at e;have f0 := f.1
    split at e
    ·have := congrArg List.length e
     rw [path_len] at this;simp at this;omega
    ·rename_i x
     subst e;exact (x ⟨by rw [path_len]; omega, .inl rfl⟩).elim
   ·intro a
    exact (a n (by omega) L f).elim
  ·have e : better b0 [] = b0 := by simp [better]
   rw [e, k];constructor
   ·intro a i hi L f
    by_cases g : i < n
    ·exact a i g L f
    ·have : i = n := by omega
     subst this;exact m L f
   ·intro a i hi
    exact a i (by omega)
def sc (nm : List (List Nat)) (i : Nat) : Option Nat := (nm[i]?).bind List.head?
structure Oneful (nm : List (List Nat)) : Prop where
 one : ∀ l ∈ nm, l.length ≤ 1
 lt : ∀ l ∈ nm, ∀ x ∈ l, x < nm.length
theorem Oneful.at {nm : List (List Nat)} (h : Oneful nm) {i : Nat} (hi : i < nm.length) : (nm[i]? = some [] ∧ sc nm i = none) ∨ ∃ p, p < nm.length ∧ nm[i]? = some [p] ∧ sc nm i = some p := by
 have e : nm[i]? = some nm[i] := List.getElem?_eq_getElem hi;have m : nm[i] ∈ nm := List.getElem_mem hi;have h1 := h.one _ m;have h2 := h.lt _ m;generalize nm[i] = l at *
 match l, h1, h2 with
 | [], _, _ => exact .inl ⟨e, by simp [sc, e]⟩
 | [p], _, h2 => exact .inr ⟨p, h2 p (by simp), e, by simp [sc, e]⟩
 | _ :: _ :: _, h1, _ => simp at h1
theorem sc_lt {nm : List (List Nat)} (h : Oneful nm) {i p : Nat} (hs : sc nm i = some p) : i < nm.length ∧ p < nm.length := by
 have hi : i < nm.length := by
  rcases Nat.lt_or_ge i nm.length with g | g
  ·exact g
  ·simp [sc, List.getElem?_eq_none g] at hs
 rcases h.at hi with ⟨_, e⟩ | ⟨q, hq, _, e⟩
 ·rw [e] at hs; cases hs
 ·rw [e] at hs; cases hs; exact ⟨hi, hq⟩
def rdy (nm : List (List Nat)) (o : List Nat) (i : Nat) : Bool := !o.contains i && (nm.getD i []).all fun p => o.contains p
def ff (nm : List (List Nat)) (o : List Nat) : Option Nat := (List.range nm.length).find? (rdy nm o)
def wo (nm : List (List Nat)) : Nat → List Nat
 | 0 => []
 | k + 1 => match ff nm (wo nm k) with
  | none => wo nm k
  | some i => wo nm k ++ [i]
def ord (nm : List (List Nat)) : List Nat := wo nm nm.length
theorem ff_some {nm : List (List Nat)} {o : List Nat} {i : Nat} (h : ff nm o = some i) : i < nm.length ∧ i ∉ o ∧ (∀ p ∈ nm.getD i [], p ∈ o) ∧ ∀ j, j < i → rdy nm o j = false := by
 unfold ff at h;rw [List.find?_range_eq_some] at h;obtain ⟨h1, h2, h3⟩ := h;simp only [rdy, Bool.and_eq_true, Bool.not_eq_true', List.contains_eq_mem, decide_eq_false_iff_not, List.all_eq_true, decide_eq_true_eq] at h1;refine ⟨by simpa using h2, h1.1, h1.2, fun j hj => by simpa using h3 j hj⟩
theorem ff_none {nm : List (List Nat)} {o : List Nat} (h : ff nm o = none) {j : Nat} (hj : j < nm.length) : rdy nm o j = false := by
 unfold ff at h;rw [List.find?_eq_none] at h
 simpa using h j (by simpa using hj)
theorem ff_of {nm : List (List Nat)} {o : List Nat} {i : Nat} (hi : i < nm.length) (h1 : rdy nm o i = true) (h2 : ∀ j, j < i → rdy nm o j = false) : ff nm o = some i := by
 unfold ff;rw [List.find?_range_eq_some];exact ⟨h1, by simpa using hi, fun j hj => by simp [h2 j hj]⟩
theorem ff_no {nm : List (List Nat)} {o : List Nat} (h : ∀ j, j < nm.length → rdy nm o j = false) : ff nm o = none := by
 unfold ff;rw [List.find?_eq_none];intro x hx;simp [h x (by simpa using hx)]
theorem wo_some {nm : List (List Nat)} {k i : Nat} (h : ff nm (wo nm k) = some i) : wo nm (k + 1) = wo nm k ++ [i] := by simp [wo, h]
theorem wo_none {nm : List (List Nat)} {k : Nat} (h : ff nm (wo nm k) = none) : ∀ m, k ≤ m → wo nm m = wo nm k := by
 intro m hm
 induction m with
 | zero => rw [show k = 0 by omega]
 | succ m ih =>
  by_cases e : k = m + 1
  ·rw [e]
  ·have := ih (by omega)
   simp only [wo];rw [this, h]
theorem wo_lt (nm : List (List Nat)) (k : Nat) : ∀ i ∈ wo nm k, i < nm.length := by
 induction k with
 | zero => simp [wo]
 | succ k ih =>
  cases h : ff nm (wo nm k) with
  | none => rw [wo_none h (k + 1) (by omega)]; exact ih
  | some j =>
   rw [wo_some h];intro i hi
   rcases List.mem_append.1 hi with g | g
   ·exact ih i g
   ·simp at g; subst g; exact (ff_some h).1
theorem wo_nodup (nm : List (List Nat)) (k : Nat) : (wo nm k).Nodup := by
 induction k with
 | zero => simp [wo]
 | succ k ih =>
  cases h : ff nm (wo nm k) with
  | none => rw [wo_none h (k + 1) (by omega)]; exact ih
  | some j =>
   rw [wo_some h, List.nodup_append];refine ⟨ih, by simp, ?_⟩;intro a ha b hb;simp at hb;subst hb;intro e;subst e;exact (ff_some h).2.1 ha
theorem pigeon : ∀ (n : Nat) (f : Nat → Nat), (∀ i, i ≤ n → f i < n) → ∃ a b, a < b ∧ b ≤ n ∧ f a = f b := by
 intro n
 induction n with
 | zero => intro f h; have := h 0 (by omega); omega
 | succ n ih =>
  intro f h
  by_cases e : ∃ a, a ≤ n ∧ f a = f (n + 1)
  ·obtain ⟨a, h1, h2⟩ := e
   exact ⟨a, n + 1, by omega, by omega, h2⟩
  ·have e : ∀ a, a ≤ n → f a ≠ f (n + 1) := fun a ha he => e ⟨a, ha, he⟩
   have hv := h (n + 1) (by omega)
   obtain ⟨a, b, h1, h2, h3⟩ := ih (fun a => if f a = n then f (n + 1) else f a) (by
    intro i hi;have := h i (by omega);have := e i hi
    show (if f i = n then f (n + 1) else f i) < n
    split <;> omega)
   refine ⟨a, b, h1, by omega, ?_⟩;have ea := e a (by omega);have eb := e b (by omega)
   split at h3 <;> split at h3 <;> first | omega | (exact (eb h3.symm).elim) | (exact (ea h3).elim) | exact h3
theorem nodup_len (l : List Nat) (n : Nat) (hn : l.Nodup) (hl : ∀ i ∈ l, i < n) : l.length ≤ n := by
 rcases Nat.lt_or_ge n l.length with g | g
 ·exfalso
  obtain ⟨a, b, h1, h2, h3⟩ := pigeon n (fun i => l.getD i 0) (by
   intro i hi;have : i < l.length := by omega
   simp only [List.getD_eq_getElem?_getD, List.getElem?_eq_getElem this, Option.getD_some]
   exact hl _ (List.getElem_mem _))
  have ha : a < l.length := by omega
  have hb : b < l.length := by omega
  simp only [List.getD_eq_getElem?_getD, List.getElem?_eq_getElem ha, List.getElem?_eq_getElem hb, Option.getD_some] at h3;have := (List.getElem_inj hn).1 h3;omega
 ·exact g
theorem wo_len (nm : List (List Nat)) (k : Nat) : (wo nm k).length ≤ nm.length := nodup_len _ _ (wo_nodup nm k) (wo_lt nm k)
theorem wo_count (nm : List (List Nat)) (k : Nat) (h : ff nm (wo nm k) ≠ none) : (wo nm k).length = k ∧ k < nm.length := by
 have h2 : (wo nm k).length = k := by
  have : ∀ m, m ≤ k → (wo nm m).length = m := by
   intro m
   induction m with
   | zero => intro _; rfl
   | succ m ih =>
    intro hm
    cases e : ff nm (wo nm m) with
    | none => exact absurd (by rw [wo_none e k (by omega)]; exact e) h
    | some i => rw [wo_some e]; simp [ih (by omega)]
  exact this k (Nat.le_refl _)
 refine ⟨h2, ?_⟩
 cases e : ff nm (wo nm k) with
 | none => exact absurd e h
 | some i =>
  have h3 := wo_len nm (k + 1);rw [wo_some e] at h3;simp at h3;omega
theorem ord_of {nm : List (List Nat)} {k : Nat} (h : ff nm (wo nm k) = none) (hk : k ≤ nm.length) : ord nm = wo nm k := wo_none h _ hk
theorem ord_stuck (nm : List (List Nat)) : ff nm (ord nm) = none := by
 cases h : ff nm (ord nm) with
 | none => rfl
 | some i =>
  have := (wo_count nm nm.length (by unfold ord at h; rw [h]; simp)).2;omega
theorem stuck_circle {nm : List (List Nat)} (ho : Oneful nm) {o : List Nat} (h : ff nm o = none) {i : Nat} (hi : i < nm.length) (hn : i ∉ o) : ∃ j L, j < nm.length ∧ First (sc nm) j j L := by
 have step : ∀ a, a < nm.length → a ∉ o → ∃ p, sc nm a = some p ∧ p < nm.length ∧ p ∉ o := by
  intro a ha hb;have hr := ff_none h ha
  rcases ho.at ha with ⟨e, _⟩ | ⟨p, hp, e, es⟩
  ·exfalso
   simp [rdy, List.getD_eq_getElem?_getD, e, hb] at hr
  ·refine ⟨p, es, hp, ?_⟩
   simpa [rdy, List.getD_eq_getElem?_getD, e, hb] using hr
 have all : ∀ t, ∃ p, it (sc nm) t i = some p ∧ p < nm.length ∧ p ∉ o := by
  intro t
  induction t with
  | zero => exact ⟨i, rfl, hi, hn⟩
  | succ t ih =>
   obtain ⟨p, h1, h2, h3⟩ := ih;obtain ⟨q, k1, k2, k3⟩ := step p h2 h3;exact ⟨q, by simp [it, h1, k1], k2, k3⟩
 obtain ⟨a, b, h1, h2, h3⟩ := pigeon nm.length (fun t => (it (sc nm) t i).getD 0) (by
  intro t _;obtain ⟨p, e, hp, _⟩ := all t;simp only [e, Option.getD_some]
  exact hp)
 obtain ⟨p, e, hp, _⟩ := all a;obtain ⟨q, e2, hq, _⟩ := all b;simp only [e, e2, Option.getD_some] at h3;subst h3
 have hb : it (sc nm) (b - a) p = some p := by
  rw [show b = a + (b - a) by omega, it_add, e] at e2;exact e2
 obtain ⟨L, f⟩ := First.of (by omega) hb;exact ⟨p, L, hp, f⟩
theorem done_free {nm : List (List Nat)} (ho : Oneful nm) (k : Nat) : (∀ i ∈ wo nm k, ∀ p, sc nm i = some p → p ∈ wo nm k) ∧ ∀ i ∈ wo nm k, ∀ t, it (sc nm) (t + 1) i ≠ some i := by
 induction k with
 | zero => simp [wo]
 | succ k ih =>
  obtain ⟨cl, fr⟩ := ih
  cases h : ff nm (wo nm k) with
  | none => rw [wo_none h (k + 1) (by omega)]; exact ⟨cl, fr⟩
  | some j =>
   rw [wo_some h];obtain ⟨hj, hn, hp, _⟩ := ff_some h
   have cj : ∀ p, sc nm j = some p → p ∈ wo nm k := by
    intro p e
    rcases ho.at hj with ⟨_, e2⟩ | ⟨q, _, e2, e3⟩
    ·rw [e2] at e; cases e
    ·rw [e3] at e
     have e := Option.some.inj e;subst e;exact hp q (by simp [List.getD_eq_getElem?_getD, e2])
   have away : ∀ t p q, p ∈ wo nm k → it (sc nm) t p = some q → q ∈ wo nm k := by
    intro t
    induction t with
    | zero => intro p q h1 h2; cases h2; exact h1
    | succ t ih =>
     intro p q h1 h2;rw [it] at h2
     cases e : it (sc nm) t p with
     | none => rw [e] at h2; cases h2
     | some r =>
      rw [e] at h2;exact cl r (ih p r h1 e) q h2
   constructor
   ·intro i hi p e
    rcases List.mem_append.1 hi with g | g
    ·exact List.mem_append.2 (.inl (cl i g p e))
    ·simp at g; subst g
     exact List.mem_append.2 (.inl (cj p e))
   ·intro i hi t
    rcases List.mem_append.1 hi with g | g
    ·exact fr i g t
    ·simp at g; subst g
     intro e;rw [it_front] at e
     cases es : sc nm i with
     | none => rw [es] at e; cases e
     | some p =>
      rw [es] at e;exact hn (away t p i (cj p es) e)
theorem ord_all {nm : List (List Nat)} (ho : Oneful nm) {b : List Nat} (hb : Bst (sc nm) nm.length b) : b = [] ↔ (ord nm).length = nm.length := by
 rw [hb.none];constructor
 ·intro a
  have hall : ∀ i, i < nm.length → i ∈ ord nm := by
   intro i hi
   by_cases e : i ∈ ord nm
   ·exact e
   ·obtain ⟨j, L, hj, f⟩ := stuck_circle ho (ord_stuck nm) hi e
    exact (a j hj L f).elim
  have h1 := wo_len nm nm.length
  have h2 : nm.length ≤ (ord nm).length := by
   rcases Nat.lt_or_ge (ord nm).length nm.length with g | g
   ·exfalso
    obtain ⟨x, y, h1, h2, h3⟩ := pigeon (ord nm).length (fun i => (ord nm).idxOf i) (by
     intro i hi
     exact List.idxOf_lt_length_of_mem (hall i (by omega)))
    have e1 := List.getElem_idxOf (x := x) (List.idxOf_lt_length_of_mem (hall x (by omega)));have e2 := List.getElem_idxOf (x := y) (List.idxOf_lt_length_of_mem (hall y (by omega)));simp only [h3] at e1;omega
   ·exact g
  exact Nat.le_antisymm h1 h2
 ·intro a i hi L f
  have hin : i ∈ ord nm := by
   by_cases e : i ∈ ord nm
   ·exact e
   ·exfalso
    have := nodup_len (i :: ord nm) nm.length (List.nodup_cons.2 ⟨e, wo_nodup _ _⟩) (by
     intro x hx
     rcases List.mem_cons.1 hx with g | g
     ·omega
     ·exact wo_lt _ _ x g)
    simp at this;omega
  have := (done_free ho nm.length).2 i hin (L - 1);rw [show L - 1 + 1 = L by have := f.1; omega] at this;exact this f.2.1
def at' (s : ByteArray) (i : Nat) : Nat := (s.get! i).toNat
def isAscii (c : Nat) : Bool := decide ((97 ≤ c ∧ c ≤ 122) ∨ (65 ≤ c ∧ c ≤ 90) ∨ c = 95)
def isFar (r : Nat) : Bool := decide ((192 ≤ r ∧ r ≤ 591 ∧ r ≠ 215 ∧ r ≠ 247) ∨ (913 ≤ r ∧ r ≤ 969) ∨ (1040 ≤ r ∧ r ≤ 1103))
def isDigit (c : Nat) : Bool := decide (48 ≤ c ∧ c ≤ 57)
def letN (s : ByteArray) (i : Nat) : Nat :=
 if isAscii (at' s i) = true then 1
 else if 194 ≤ at' s i ∧ at' s i ≤ 223 ∧ i + 1 < s.size ∧ 128 ≤ at' s (i + 1) ∧ at' s (i + 1) ≤ 191 then
  if isFar ((at' s i - 192) * 64 + (at' s (i + 1) - 128)) = true then 2 else 0
 else 0
def stepN (s : ByteArray) (i : Nat) : Nat :=
 if letN s i = 0 then (if 0 < i ∧ isDigit (at' s i) = true then 1 else 0) else letN s i
def endOf (s : ByteArray) : Nat → Nat → Nat
 | 0, i => i
 | f + 1, i => if i < s.size ∧ stepN s i ≠ 0 then endOf s f (i + stepN s i) else i
def nameB (s : ByteArray) : Bool := decide (0 < s.size ∧ s.size ≤ 40 ∧ endOf s s.size 0 = s.size)
def runeB (r : Nat) : Bool := isAscii r || isFar r
def fitsB (i r : Nat) : Bool := runeB r || (decide (0 < i) && isDigit r)
theorem at_lt (s : ByteArray) (i : Nat) : at' s i < 256 := by unfold at'; exact UInt8.toNat_lt _
theorem get_eq (s : ByteArray) (i : Nat) (h : i < s.size) : at' s i = (s[i]'h).toNat := by
 have := get_at s i h;simp only [Nat.add_zero] at this;unfold at'; rw [this]
theorem letN_le (s : ByteArray) (i : Nat) (h : i < s.size) : i + letN s i ≤ s.size := by
 unfold letN
 split
 ·omega
 ·split
  ·split <;> omega
  ·omega
theorem stepN_le (s : ByteArray) (i : Nat) (h : i < s.size) : i + stepN s i ≤ s.size := by
 have := letN_le s i h;unfold stepN
 split
 ·split <;> omega
 ·omega
theorem fits_big (i r : Nat) (h : 1104 ≤ r) : fitsB i r = false := by
 have h1 : isAscii r = false := df (by omega);have h2 : isFar r = false := df (by omega);have h3 : isDigit r = false := df (by omega);simp [fitsB, runeB, h1, h2, h3]
theorem step_none (s : ByteArray) (i : Nat) (h : 128 ≤ at' s i)
  (hn : ¬ (194 ≤ at' s i ∧ at' s i ≤ 223 ∧ i + 1 < s.size ∧ 128 ≤ at' s (i + 1) ∧ at' s (i + 1) ≤ 191)) : stepN s i = 0 := by
 have h1 : isAscii (at' s i) = false := df (by omega);have h3 : isDigit (at' s i) = false := df (by omega);simp [stepN, letN, h1, h3, hn]
def SameD (s : ByteArray) (i : Nat) (p : Nat × Nat) : Prop := (fitsB i p.1 = true → stepN s i = p.2) ∧ (fitsB i p.1 = false → stepN s i = 0)
theorem same_none (s : ByteArray) (i : Nat) (p : Nat × Nat) (hp : 1104 ≤ p.1) (h : stepN s i = 0) : SameD s i p :=
  ⟨fun e => absurd ((fits_big i p.1 hp).symm.trans e) (by decide), fun _ => h⟩
theorem same_ite (s : ByteArray) (i : Nat) (c : Prop) [Decidable c] (p q : Nat × Nat) (h1 : c → SameD s i p) (h2 : ¬ c → SameD s i q) : SameD s i (if c then p else q) := by
 by_cases h : c
 ·rw [if_pos h]; exact h1 h
 ·rw [if_neg h]; exact h2 h
theorem fits_step (s : ByteArray) (i : Nat) : SameD s i (Utf8.decode s i) := by
 have b0 := at_lt s i;have b1 := at_lt s (i + 1);have e0 : (s.get! (i + 0)).toNat = at' s i := rfl;have e1 : (s.get! (i + 1)).toNat = at' s (i + 1) := rfl;have hn := step_none s i;simp only [Utf8.decode, e0, e1];refine same_ite s i _ _ _ (fun h => ?_) (fun h => ?_)
 ·have h2 : isFar (at' s i) = false := df (by omega)
  have h4 : ¬ (194 ≤ at' s i ∧ at' s i ≤ 223 ∧ i + 1 < s.size ∧ 128 ≤ at' s (i + 1) ∧ at' s (i + 1) ≤ 191) := by omega
  unfold SameD fitsB runeB stepN letN;rw [h2, if_neg h4]
  cases isAscii (at' s i) <;> cases isDigit (at' s i) <;> simp
  omega
 refine same_ite s i _ _ _ (fun h1 => ?_) (fun h1 => ?_)
 ·simp at h1
  refine same_ite s i _ _ _ (fun h2 => ?_) (fun h2 => ?_)
  ·have h3 : isDigit (at' s i) = false := df (by omega)
   have h5 : isAscii (at' s i) = false := df (by omega);have h4 : 194 ≤ at' s i ∧ at' s i ≤ 223 ∧ i + 1 < s.size ∧ 128 ≤ at' s (i + 1) ∧ at' s (i + 1) ≤ 191 := by omega
   have e : at' s i % 32 * 64 + at' s (i + 1) % 64 = (at' s i - 192) * 64 + (at' s (i + 1) - 128) := by omega
   unfold SameD fitsB runeB stepN letN;rw [if_pos h4, h5, h3]
   show (_ → _ = 2) ∧ _
   rw [e];have h6 : isAscii ((at' s i - 192) * 64 + (at' s (i + 1) - 128)) = false := df (by omega);have h7 : isDigit ((at' s i - 192) * 64 + (at' s (i + 1) - 128)) = false := df (by omega);rw [h6, h7]
   cases isFar ((at' s i - 192) * 64 + (at' s (i + 1) - 128)) <;> simp
  ·exact same_none s i _ (by simp [Utf8.runeError]) (hn (by omega) (by omega))
 have hz : stepN s i = 0 := by
  refine hn (by omega) ?_;simp at h1;omega
 refine same_ite s i _ _ _ (fun h2 => ?_) (fun h2 => ?_)
 ·refine same_ite s i _ _ _ (fun h3 => ?_) (fun h3 => ?_)
  ·refine same_none s i _ ?_ hz
   simp at h3 ⊢;omega
  ·exact same_none s i _ (by simp [Utf8.runeError]) hz
 refine same_ite s i _ _ _ (fun h3 => ?_) (fun h3 => ?_)
 ·refine same_ite s i _ _ _ (fun h4 => ?_) (fun h4 => ?_)
  ·refine same_none s i _ ?_ hz
   simp at h4 ⊢;omega
  ·exact same_none s i _ (by simp [Utf8.runeError]) hz
 exact same_none s i _ (by simp [Utf8.runeError]) hz
theorem endOf_ge (s : ByteArray) (f i : Nat) (h : ¬ i < s.size) : endOf s f i = i := by
 cases f with
 | zero => rfl
 | succ f => simp [endOf, h]
theorem endOf_stop (s : ByteArray) (f i : Nat) (h : stepN s i = 0) : endOf s f i = i := by
 cases f with
 | zero => rfl
 | succ f => simp [endOf, h]
theorem endOf_step (s : ByteArray) (f i : Nat) (h : i < s.size) (hf : s.size ≤ i + f) (hs : stepN s i ≠ 0) :
  endOf s f i = endOf s (f - 1) (i + stepN s i) ∧ s.size ≤ i + stepN s i + (f - 1) := by
 cases f with
 | zero => omega
 | succ f => exact ⟨by simp [endOf, h, hs], by omega⟩
open Go.ChangeShapes Go.WideShapes Go.ChangeAt Go.RowKit
set_option linter.unusedVariables false
set_option linter.unusedSimpArgs false
structure Ft where
 nm : ByteArray
 on : ByteArray
 ov : ByteArray
 kd : Int
 sd : Int
 x0 : Int
 y0 : Int
 z0 : Int
 x1 : Int
 y1 : Int
 z1 : Int
 ct : Int
 dx : Int
 dy : Int
 dz : Int
def ftc (f : Ft) : List Value := [.string f.nm, .string f.on, .string f.ov, .int .i64 f.kd, .int .i64 f.sd, .int .i64 f.x0, .int .i64 f.y0, .int .i64 f.z0, .int .i64 f.x1, .int .i64 f.y1, .int .i64 f.z1, .int .i64 f.ct, .int .i64 f.dx, .int .i64 f.dy, .int .i64 f.dz]
def ftv (f : Ft) : Value := .agg #[.string f.nm, .string f.on, .string f.ov, .int .i64 f.kd, .int .i64 f.sd, .int .i64 f.x0, .int .i64 f.y0, .int .i64 f.z0, .int .i64 f.x1, .int .i64 f.y1, .int .i64 f.z1, .int .i64 f.ct, .int .i64 f.dx, .int .i64 f.dy, .int .i64 f.dz]
theorem ftc_len (f : Ft) : (ftc f).length = 15 := rfl
def ft0 : Ft := ⟨ByteArray.empty, ByteArray.empty, ByteArray.empty, 0, 0, 0, 0, 0, 0, 0, 0, 0, 0, 0, 0⟩
def sEq (s t : ByteArray) : Bool := s.toList == t.toList
theorem sEq_iff {s t : ByteArray} : sEq s t = true ↔ s = t := by
 unfold sEq;rw [beq_iff_eq];constructor
 ·intro h
  cases s; cases t
  rw [ByteArray.toList_eq, ByteArray.toList_eq] at h;simp only at h;rw [Array.toList_inj.1 h]
 ·intro h; rw [h]
theorem sEq_refl (s : ByteArray) : sEq s s = true := sEq_iff.2 rfl
theorem sEq_ne {s t : ByteArray} (h : s ≠ t) : sEq s t = false := by rw [← Bool.not_eq_true, sEq_iff]; exact h
def emp (s : ByteArray) : Bool := sEq s ⟨#[]⟩
theorem emp_iff {s : ByteArray} : emp s = true ↔ s = ⟨#[]⟩ := sEq_iff
theorem nameB_emp {s : ByteArray} (h : emp s = true) : nameB s = false := by
 rw [emp_iff.1 h]; rfl
theorem nameB_not {s : ByteArray} (h : nameB s = true) : emp s = false := by
 cases e : emp s with
 | false => rfl
 | true => rw [nameB_emp e] at h; cases h
def inG (x : Int) : Bool := decide (-24 ≤ x) && decide (x ≤ 24)
def loose (x0 y0 z0 x1 y1 z1 : Int) : Bool := inG x0 && inG y0 && inG z0 && inG x1 && inG y1 && inG z1 && decide (x0 < x1) && decide (y0 < y1) && decide (z0 < z1)
def ftr (f : Ft) : Bool :=
 nameB f.nm && (emp f.on || nameB f.on) && (emp f.ov || nameB f.ov) &&
 (if f.kd = 1 ∨ f.kd = 2 then
  (if emp f.on then decide (f.sd = 0) else decide (1 ≤ f.sd ∧ f.sd ≤ 6)) && loose f.x0 f.y0 f.z0 f.x1 f.y1 f.z1 && emp f.ov && decide (f.ct = 0 ∧ f.dx = 0 ∧ f.dy = 0 ∧ f.dz = 0)
 else if f.kd = 3 then
  !emp f.ov && emp f.on && decide (f.sd = 0 ∧ f.x0 = 0 ∧ f.y0 = 0 ∧ f.z0 = 0 ∧ f.x1 = 0 ∧ f.y1 = 0 ∧ f.z1 = 0) && decide (1 ≤ f.ct ∧ f.ct ≤ 8) && inG f.dx && inG f.dy && inG f.dz && decide (f.dx ≠ 0 ∨ f.dy ≠ 0 ∨ f.dz ≠ 0)
 else false)
def findN (fs : List Ft) (s : ByteArray) : Option Nat := fs.findIdx? fun f => sEq f.nm s
def twi (fs : List Ft) : Option Ft := ((List.range fs.length).find? fun i => ((fs.take i).any fun g => sEq g.nm (fs.getD i ft0).nm)).map fun i => fs.getD i ft0
def wrg (fs : List Ft) (f : Ft) : Option ByteArray :=
 if emp f.on = false ∧ findN fs f.on = none then some f.on
 else if emp f.ov = false then
  match findN fs f.ov with
  | none => some f.ov
  | some k => if (fs.getD k ft0).kd = 3 ∨ emp (fs.getD k ft0).on = false then some f.ov else none
 else none
def nmd (fs : List Ft) (f : Ft) : List Nat :=
 (if emp f.on then [] else [(findN fs f.on).getD 0]) ++ (if emp f.ov then [] else [(findN fs f.ov).getD 0])
def nms (fs : List Ft) : List (List Nat) := fs.map (nmd fs)
def Chk (fs : List Ft) (c : Int) (ab : List ByteArray) : Prop :=
 if 4096 < fs.length then c = 2 ∧ ab = []
 else if 30 < fs.length then c = 10 ∧ ab = []
 else match fs.find? fun f => !ftr f with
  | some f => c = 1 ∧ ab = [f.nm]
  | none => match twi fs with
   | some f => c = 7 ∧ ab = [f.nm]
   | none => match fs.find? fun f => (wrg fs f).isSome with
    | some f => c = 6 ∧ ab = [f.nm, (wrg fs f).getD ⟨#[]⟩]
    | none => ∃ b, Bst (sc (nms fs)) fs.length b ∧ ab = b.map (fun i => (fs.getD i ft0).nm) ∧ c = if b = [] then 0 else 9
theorem Chk.uniq {fs : List Ft} {c c' : Int} {ab ab' : List ByteArray} (h : Chk fs c ab) (k : Chk fs c' ab') : c = c' ∧ ab = ab' := by
 unfold Chk at h k
 split at h
 ·rename_i e; rw [if_pos e] at k; exact ⟨h.1.trans k.1.symm, h.2.trans k.2.symm⟩
 rename_i e; rw [if_neg e] at k
 split at h
 ·rename_i e; rw [if_pos e] at k; exact ⟨h.1.trans k.1.symm, h.2.trans k.2.symm⟩
 rename_i e; rw [if_neg e] at k
 split at h
 ·rename_i e; rw [e] at k; exact ⟨h.1.trans k.1.symm, h.2.trans k.2.symm⟩
 rename_i e; rw [e] at k
 simp only at k
 split at h
 ·rename_i e; rw [e] at k; exact ⟨h.1.trans k.1.symm, h.2.trans k.2.symm⟩
 rename_i e; rw [e] at k
 simp only at k
 split at h
 ·rename_i e; rw [e] at k; exact ⟨h.1.trans k.1.symm, h.2.trans k.2.symm⟩
 rename_i e; rw [e] at k
 simp only at k;obtain ⟨b, h1, h2, h3⟩ := h;obtain ⟨d, k1, k2, k3⟩ := k;have := h1.uniq k1;subst this;exact ⟨h3.trans k3.symm, h2.trans k2.symm⟩
theorem findN_lt {fs : List Ft} {s : ByteArray} {k : Nat} (h : findN fs s = some k) : k < fs.length := by
 unfold findN at h;rw [List.findIdx?_eq_some_iff_findIdx_eq] at h;exact h.1
theorem nms_one {fs : List Ft} (hr : ∀ f ∈ fs, ftr f = true) (hw : ∀ f ∈ fs, wrg fs f = none) : Oneful (nms fs) := by
 have len : (nms fs).length = fs.length := by simp [nms]
 constructor
 ·intro l hl
  obtain ⟨f, hf, rfl⟩ := List.mem_map.1 hl;have := hr f hf;unfold ftr at this;unfold nmd
  cases h1 : emp f.on <;> cases h2 : emp f.ov <;> simp [h1, h2] at this ⊢
 ·intro l hl x hx
  obtain ⟨f, hf, rfl⟩ := List.mem_map.1 hl;rw [len];have := hw f hf;unfold wrg at this;unfold nmd at hx
  rcases List.mem_append.1 hx with h | h
  ·cases h1 : emp f.on with
   | true => simp [h1] at h
   | false =>
    cases h2 : findN fs f.on with
    | none => simp [h1, h2] at this
    | some k =>
     simp [h1, h2] at h;subst h;exact findN_lt h2
  ·cases h1 : emp f.ov with
   | true => simp [h1] at h
   | false =>
    cases h2 : findN fs f.ov with
    | none =>
     rw [h1, h2] at this
     split at this
     ·cases this
     ·simp at this
    | some k =>
     simp [h1, h2] at h;subst h;exact findN_lt h2
end Go.Proofs.YtkiplmabjeadgaaGreat
