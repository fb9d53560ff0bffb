/-
  Features that name one another, in lists: the order in which they are done, and circles.
-/
import Derived.ProofKit
namespace Go.Proofs.Ytkkmikgeppkhiaa

/-- t steps of naming from i -/
def it (s : Nat → Option Nat) : Nat → Nat → Option Nat
  | 0, i => some i
  | t + 1, i => (it s t i).bind s
theorem it_front (s : Nat → Option Nat) (t i : Nat) : it s (t + 1) i = (s i).bind (it s t) := by
  induction t generalizing i with
  | zero => simp only [it, Option.bind_some]; cases s i <;> rfl
  | succ t ih =>
    rw [it, ih]
    cases h : s i with
    | none => rfl
    | some j => rfl
theorem it_add (s : Nat → Option Nat) (t u i : Nat) : it s (t + u) i = (it s t i).bind (it s u) := by
  induction t generalizing i with
  | zero => simp [it]
  | succ t ih =>
    rw [show t + 1 + u = t + u + 1 by omega, it_front, it_front]
    cases s i with
    | none => rfl
    | some j => simp only [Option.bind_some]; exact ih j
theorem it_none {s : Nat → Option Nat} {t i : Nat} (h : it s t i = none) {u : Nat} (hu : t ≤ u) : it s u i = none := by
  obtain ⟨k, rfl⟩ := Nat.exists_eq_add_of_le hu
  rw [it_add, h]; rfl

/-- L is the first number of steps, more than none, by which i comes to j -/
def First (s : Nat → Option Nat) (i j L : Nat) : Prop := 0 < L ∧ it s L i = some j ∧ ∀ t, 0 < t → t < L → it s t i ≠ some j
theorem First.uniq {s : Nat → Option Nat} {i j L M : Nat} (h : First s i j L) (k : First s i j M) : L = M := by
  rcases Nat.lt_trichotomy L M with e | e | e
  · exact absurd h.2.1 (k.2.2 L h.1 e)
  · exact e
  · exact absurd k.2.1 (h.2.2 M k.1 e)
theorem First.one {s : Nat → Option Nat} {i j : Nat} (h : s i = some j) : First s i j 1 := ⟨by omega, by rw [it_front, h]; rfl, fun t h1 h2 => by omega⟩
theorem First.more {s : Nat → Option Nat} {i r j L : Nat} (h : s i = some r) (hr : r ≠ j) (f : First s r j L) : First s i j (L + 1) := by
  refine ⟨by omega, by rw [it_front, h]; exact f.2.1, fun t h1 h2 => ?_⟩
  obtain ⟨u, rfl⟩ : ∃ u, t = u + 1 := ⟨t - 1, by omega⟩
  rw [it_front, h]
  simp only [Option.bind_some]
  cases u with
  | zero => simp only [it, ne_eq, Option.some.injEq]; exact hr
  | succ u => exact f.2.2 (u + 1) (by omega) (by omega)
theorem First.back {s : Nat → Option Nat} {i r j L : Nat} (f : First s i j L) (h : s i = some r) : (r = j ∧ L = 1) ∨ (r ≠ j ∧ 1 < L ∧ First s r j (L - 1)) := by
  by_cases e : r = j
  · exact .inl ⟨e, f.uniq (.one (e ▸ h))⟩
  · right
    have h1 : 1 < L := by
      rcases Nat.lt_or_ge 1 L with g | g
      · exact g
      · have : L = 1 := by have := f.1; omega
        subst this
        have := f.2.1
        rw [it_front, h] at this
        exact absurd (Option.some.inj this) e
    refine ⟨e, h1, by omega, ?_, fun t t0 t1 => ?_⟩
    · have := f.2.1
      rw [show L = L - 1 + 1 by omega, it_front, h] at this
      exact this
    · have := f.2.2 (t + 1) (by omega) (by omega)
      rw [it_front, h] at this
      exact this
theorem First.no {s : Nat → Option Nat} {i j L : Nat} (f : First s i j L) (h : s i = none) : False := by
  have := f.2.1
  rw [show L = L - 1 + 1 by have := f.1; omega, it_front, h] at this
  cases this
/-- what is left behind t steps -/
theorem First.rest {s : Nat → Option Nat} {i j L : Nat} (f : First s i j L) {t : Nat} (h : t < L) : ∃ p, it s t i = some p ∧ First s p j (L - t) := by
  induction t with
  | zero => exact ⟨i, rfl, by simpa using f⟩
  | succ t ih =>
    obtain ⟨p, hp, g⟩ := ih (by omega)
    cases hs : s p with
    | none => exact (g.no hs).elim
    | some r =>
      rcases g.back hs with ⟨_, e⟩ | ⟨_, _, g1⟩
      · omega
      · exact ⟨r, by simp [it, hp, hs], by rw [show L - (t + 1) = L - t - 1 by omega]; exact g1⟩
/-- from any return a first one -/
theorem First.of {s : Nat → Option Nat} {i j : Nat} : ∀ {t : Nat}, 0 < t → it s t i = some j → ∃ L, First s i j L := by
  intro t
  induction t using Nat.strongRecOn with
  | _ t ih =>
    intro h0 h
    by_cases e : ∃ u, 0 < u ∧ u < t ∧ it s u i = some j
    · obtain ⟨u, u0, u1, hu⟩ := e
      exact ih u u1 u0 hu
    · exact ⟨t, h0, h, fun u u0 u1 hu => e ⟨u, u0, u1, hu⟩⟩

/-- the features met in L steps from i on -/
def path (s : Nat → Option Nat) : Nat → Nat → List Nat
  | 0, _ => []
  | L + 1, i => path s L i ++ [(it s L i).getD 0]
theorem path_len (s : Nat → Option Nat) (L i : Nat) : (path s L i).length = L := by
  induction L with
  | zero => rfl
  | succ L ih => simp [path, ih]

/-- the circle that begins with i, or nothing -/
def Cyc (s : Nat → Option Nat) (i : Nat) (c : List Nat) : Prop := (∃ L, First s i i L ∧ c = path s L i) ∨ ((∀ L, ¬ First s i i L) ∧ c = [])
theorem Cyc.uniq {s : Nat → Option Nat} {i : Nat} {c d : List Nat} (h : Cyc s i c) (k : Cyc s i d) : c = d := by
  rcases h with ⟨L, f, rfl⟩ | ⟨n, rfl⟩ <;> rcases k with ⟨M, g, rfl⟩ | ⟨m, rfl⟩
  · rw [f.uniq g]
  · exact (m _ f).elim
  · exact (n _ g).elim
  · rfl
/-- the shortest circle of those that begin ahead of n -/
def better (b c : List Nat) : List Nat := if 0 < c.length ∧ (b.length = 0 ∨ c.length < b.length) then c else b
def Bst (s : Nat → Option Nat) : Nat → List Nat → Prop
  | 0, b => b = []
  | k + 1, b => ∃ b0 c, Bst s k b0 ∧ Cyc s k c ∧ b = better b0 c
theorem Bst.uniq {s : Nat → Option Nat} {n : Nat} {b d : List Nat} (h : Bst s n b) (k : Bst s n d) : b = d := by
  induction n generalizing b d with
  | zero => rw [show b = [] from h, show d = [] from k]
  | succ n ih =>
    obtain ⟨b0, c, h1, h2, rfl⟩ := h
    obtain ⟨d0, e, k1, k2, rfl⟩ := k
    rw [ih h1 k1, h2.uniq k2]
theorem Bst.none {s : Nat → Option Nat} {n : Nat} {b : List Nat} (h : Bst s n b) : b = [] ↔ ∀ i, i < n → ∀ L, ¬ First s i i L := by
  induction n generalizing b with
  | zero => exact ⟨fun _ i hi => by omega, fun _ => h⟩
  | succ n ih =>
    obtain ⟨b0, c, h1, h2, rfl⟩ := h
    have k := ih h1
    rcases h2 with ⟨L, f, rfl⟩ | ⟨m, rfl⟩
    · constructor
      · intro e
        unfold better at e
        have f0 := f.1
        split at e
        · have := congrArg List.length e
          rw [path_len] at this
          simp at this
          omega
        · rename_i x
          subst e
          exact (x ⟨by rw [path_len]; omega, .inl rfl⟩).elim
      · intro a
        exact (a n (by omega) L f).elim
    · have e : better b0 [] = b0 := by simp [better]
      rw [e, k]
      constructor
      · intro a i hi L f
        by_cases g : i < n
        · exact a i g L f
        · have : i = n := by omega
          subst this
          exact m L f
      · intro a i hi
        exact a i (by omega)

/-- whom i names, if anyone -/
def sc (nm : List (List Nat)) (i : Nat) : Option Nat := (nm[i]?).bind List.head?
/-- each names one at most, one that there is -/
structure Oneful (nm : List (List Nat)) : Prop where
  one : ∀ l ∈ nm, l.length ≤ 1
  lt : ∀ l ∈ nm, ∀ x ∈ l, x < nm.length
theorem Oneful.at {nm : List (List Nat)} (h : Oneful nm) {i : Nat} (hi : i < nm.length) : (nm[i]? = some [] ∧ sc nm i = none) ∨ ∃ p, p < nm.length ∧ nm[i]? = some [p] ∧ sc nm i = some p := by
  have e : nm[i]? = some nm[i] := List.getElem?_eq_getElem hi
  have m : nm[i] ∈ nm := List.getElem_mem hi
  have h1 := h.one _ m
  have h2 := h.lt _ m
  generalize nm[i] = l at *
  match l, h1, h2 with
  | [], _, _ => exact .inl ⟨e, by simp [sc, e]⟩
  | [p], _, h2 => exact .inr ⟨p, h2 p (by simp), e, by simp [sc, e]⟩
  | _ :: _ :: _, h1, _ => simp at h1
theorem sc_lt {nm : List (List Nat)} (h : Oneful nm) {i p : Nat} (hs : sc nm i = some p) : i < nm.length ∧ p < nm.length := by
  have hi : i < nm.length := by
    rcases Nat.lt_or_ge i nm.length with g | g
    · exact g
    · simp [sc, List.getElem?_eq_none g] at hs
  rcases h.at hi with ⟨_, e⟩ | ⟨q, hq, _, e⟩
  · rw [e] at hs; cases hs
  · rw [e] at hs; cases hs; exact ⟨hi, hq⟩

/-- may i be done, these being done? -/
def rdy (nm : List (List Nat)) (o : List Nat) (i : Nat) : Bool := !o.contains i && (nm.getD i []).all fun p => o.contains p
/-- the first that may be done -/
def ff (nm : List (List Nat)) (o : List Nat) : Option Nat := (List.range nm.length).find? (rdy nm o)
/-- what is done behind k rounds -/
def wo (nm : List (List Nat)) : Nat → List Nat
  | 0 => []
  | k + 1 => match ff nm (wo nm k) with
    | none => wo nm k
    | some i => wo nm k ++ [i]
def ord (nm : List (List Nat)) : List Nat := wo nm nm.length

theorem ff_some {nm : List (List Nat)} {o : List Nat} {i : Nat} (h : ff nm o = some i) : i < nm.length ∧ i ∉ o ∧ (∀ p ∈ nm.getD i [], p ∈ o) ∧ ∀ j, j < i → rdy nm o j = false := by
  unfold ff at h
  rw [List.find?_range_eq_some] at h
  obtain ⟨h1, h2, h3⟩ := h
  simp only [rdy, Bool.and_eq_true, Bool.not_eq_true', List.contains_eq_mem, decide_eq_false_iff_not, List.all_eq_true, decide_eq_true_eq] at h1
  refine ⟨by simpa using h2, h1.1, h1.2, fun j hj => by simpa using h3 j hj⟩
theorem ff_none {nm : List (List Nat)} {o : List Nat} (h : ff nm o = none) {j : Nat} (hj : j < nm.length) : rdy nm o j = false := by
  unfold ff at h
  rw [List.find?_eq_none] at h
  simpa using h j (by simpa using hj)
theorem ff_of {nm : List (List Nat)} {o : List Nat} {i : Nat} (hi : i < nm.length) (h1 : rdy nm o i = true) (h2 : ∀ j, j < i → rdy nm o j = false) : ff nm o = some i := by
  unfold ff
  rw [List.find?_range_eq_some]
  exact ⟨h1, by simpa using hi, fun j hj => by simp [h2 j hj]⟩
theorem ff_no {nm : List (List Nat)} {o : List Nat} (h : ∀ j, j < nm.length → rdy nm o j = false) : ff nm o = none := by
  unfold ff
  rw [List.find?_eq_none]
  intro x hx
  simp [h x (by simpa using hx)]
theorem wo_some {nm : List (List Nat)} {k i : Nat} (h : ff nm (wo nm k) = some i) : wo nm (k + 1) = wo nm k ++ [i] := by simp [wo, h]
theorem wo_none {nm : List (List Nat)} {k : Nat} (h : ff nm (wo nm k) = none) : ∀ m, k ≤ m → wo nm m = wo nm k := by
  intro m hm
  induction m with
  | zero => rw [show k = 0 by omega]
  | succ m ih =>
    by_cases e : k = m + 1
    · rw [e]
    · have := ih (by omega)
      simp only [wo]
      rw [this, h]
theorem wo_lt (nm : List (List Nat)) (k : Nat) : ∀ i ∈ wo nm k, i < nm.length := by
  induction k with
  | zero => simp [wo]
  | succ k ih =>
    cases h : ff nm (wo nm k) with
    | none => rw [wo_none h (k + 1) (by omega)]; exact ih
    | some j =>
      rw [wo_some h]
      intro i hi
      rcases List.mem_append.1 hi with g | g
      · exact ih i g
      · simp at g; subst g; exact (ff_some h).1
theorem wo_nodup (nm : List (List Nat)) (k : Nat) : (wo nm k).Nodup := by
  induction k with
  | zero => simp [wo]
  | succ k ih =>
    cases h : ff nm (wo nm k) with
    | none => rw [wo_none h (k + 1) (by omega)]; exact ih
    | some j =>
      rw [wo_some h, List.nodup_append]
      refine ⟨ih, by simp, ?_⟩
      intro a ha b hb
      simp at hb
      subst hb
      intro e
      subst e
      exact (ff_some h).2.1 ha

/-- more numbers than places: two are the same -/
theorem pigeon : ∀ (n : Nat) (f : Nat → Nat), (∀ i, i ≤ n → f i < n) → ∃ a b, a < b ∧ b ≤ n ∧ f a = f b := by
  intro n
  induction n with
  | zero => intro f h; have := h 0 (by omega); omega
  | succ n ih =>
    intro f h
    by_cases e : ∃ a, a ≤ n ∧ f a = f (n + 1)
    · obtain ⟨a, h1, h2⟩ := e
      exact ⟨a, n + 1, by omega, by omega, h2⟩
    · have e : ∀ a, a ≤ n → f a ≠ f (n + 1) := fun a ha he => e ⟨a, ha, he⟩
      have hv := h (n + 1) (by omega)
      obtain ⟨a, b, h1, h2, h3⟩ := ih (fun a => if f a = n then f (n + 1) else f a) (by
        intro i hi
        have := h i (by omega)
        have := e i hi
        show (if f i = n then f (n + 1) else f i) < n
        split <;> omega)
      refine ⟨a, b, h1, by omega, ?_⟩
      have ea := e a (by omega)
      have eb := e b (by omega)
      split at h3 <;> split at h3 <;> first | omega | (exact (eb h3.symm).elim) | (exact (ea h3).elim) | exact h3
theorem nodup_len (l : List Nat) (n : Nat) (hn : l.Nodup) (hl : ∀ i ∈ l, i < n) : l.length ≤ n := by
  rcases Nat.lt_or_ge n l.length with g | g
  · exfalso
    obtain ⟨a, b, h1, h2, h3⟩ := pigeon n (fun i => l.getD i 0) (by
      intro i hi
      have : i < l.length := by omega
      simp only [List.getD_eq_getElem?_getD, List.getElem?_eq_getElem this, Option.getD_some]
      exact hl _ (List.getElem_mem _))
    have ha : a < l.length := by omega
    have hb : b < l.length := by omega
    simp only [List.getD_eq_getElem?_getD, List.getElem?_eq_getElem ha, List.getElem?_eq_getElem hb, Option.getD_some] at h3
    have := (List.getElem_inj hn).1 h3
    omega
  · exact g
theorem wo_len (nm : List (List Nat)) (k : Nat) : (wo nm k).length ≤ nm.length := nodup_len _ _ (wo_nodup nm k) (wo_lt nm k)
/-- as long as there was one to be done, each round did one -/
theorem wo_count (nm : List (List Nat)) (k : Nat) (h : ff nm (wo nm k) ≠ none) : (wo nm k).length = k ∧ k < nm.length := by
  have h2 : (wo nm k).length = k := by
    have : ∀ m, m ≤ k → (wo nm m).length = m := by
      intro m
      induction m with
      | zero => intro _; rfl
      | succ m ih =>
        intro hm
        cases e : ff nm (wo nm m) with
        | none => exact absurd (by rw [wo_none e k (by omega)]; exact e) h
        | some i => rw [wo_some e]; simp [ih (by omega)]
    exact this k (Nat.le_refl _)
  refine ⟨h2, ?_⟩
  cases e : ff nm (wo nm k) with
  | none => exact absurd e h
  | some i =>
    have h3 := wo_len nm (k + 1)
    rw [wo_some e] at h3
    simp at h3
    omega
theorem ord_of {nm : List (List Nat)} {k : Nat} (h : ff nm (wo nm k) = none) (hk : k ≤ nm.length) : ord nm = wo nm k := wo_none h _ hk
theorem ord_stuck (nm : List (List Nat)) : ff nm (ord nm) = none := by
  cases h : ff nm (ord nm) with
  | none => rfl
  | some i =>
    have := (wo_count nm nm.length (by unfold ord at h; rw [h]; simp)).2
    omega
/-- what is left can not be done: there is a circle -/
theorem stuck_circle {nm : List (List Nat)} (ho : Oneful nm) {o : List Nat} (h : ff nm o = none) {i : Nat} (hi : i < nm.length) (hn : i ∉ o) : ∃ j L, j < nm.length ∧ First (sc nm) j j L := by
  have step : ∀ a, a < nm.length → a ∉ o → ∃ p, sc nm a = some p ∧ p < nm.length ∧ p ∉ o := by
    intro a ha hb
    have hr := ff_none h ha
    rcases ho.at ha with ⟨e, _⟩ | ⟨p, hp, e, es⟩
    · exfalso
      simp [rdy, List.getD_eq_getElem?_getD, e, hb] at hr
    · refine ⟨p, es, hp, ?_⟩
      simpa [rdy, List.getD_eq_getElem?_getD, e, hb] using hr
  have all : ∀ t, ∃ p, it (sc nm) t i = some p ∧ p < nm.length ∧ p ∉ o := by
    intro t
    induction t with
    | zero => exact ⟨i, rfl, hi, hn⟩
    | succ t ih =>
      obtain ⟨p, h1, h2, h3⟩ := ih
      obtain ⟨q, k1, k2, k3⟩ := step p h2 h3
      exact ⟨q, by simp [it, h1, k1], k2, k3⟩
  obtain ⟨a, b, h1, h2, h3⟩ := pigeon nm.length (fun t => (it (sc nm) t i).getD 0) (by
    intro t _
    obtain ⟨p, e, hp, _⟩ := all t
    simp only [e, Option.getD_some]
    exact hp)
  obtain ⟨p, e, hp, _⟩ := all a
  obtain ⟨q, e2, hq, _⟩ := all b
  simp only [e, e2, Option.getD_some] at h3
  subst h3
  have hb : it (sc nm) (b - a) p = some p := by
    rw [show b = a + (b - a) by omega, it_add, e] at e2
    exact e2
  obtain ⟨L, f⟩ := First.of (by omega) hb
  exact ⟨p, L, hp, f⟩
/-- who is done lies on no circle -/
theorem done_free {nm : List (List Nat)} (ho : Oneful nm) (k : Nat) : (∀ i ∈ wo nm k, ∀ p, sc nm i = some p → p ∈ wo nm k) ∧ ∀ i ∈ wo nm k, ∀ t, it (sc nm) (t + 1) i ≠ some i := by
  induction k with
  | zero => simp [wo]
  | succ k ih =>
    obtain ⟨cl, fr⟩ := ih
    cases h : ff nm (wo nm k) with
    | none => rw [wo_none h (k + 1) (by omega)]; exact ⟨cl, fr⟩
    | some j =>
      rw [wo_some h]
      obtain ⟨hj, hn, hp, _⟩ := ff_some h
      have cj : ∀ p, sc nm j = some p → p ∈ wo nm k := by
        intro p e
        rcases ho.at hj with ⟨_, e2⟩ | ⟨q, _, e2, e3⟩
        · rw [e2] at e; cases e
        · rw [e3] at e
          have e := Option.some.inj e
          subst e
          exact hp q (by simp [List.getD_eq_getElem?_getD, e2])
      have away : ∀ t p q, p ∈ wo nm k → it (sc nm) t p = some q → q ∈ wo nm k := by
        intro t
        induction t with
        | zero => intro p q h1 h2; cases h2; exact h1
        | succ t ih =>
          intro p q h1 h2
          rw [it] at h2
          cases e : it (sc nm) t p with
          | none => rw [e] at h2; cases h2
          | some r =>
            rw [e] at h2
            exact cl r (ih p r h1 e) q h2
      constructor
      · intro i hi p e
        rcases List.mem_append.1 hi with g | g
        · exact List.mem_append.2 (.inl (cl i g p e))
        · simp at g; subst g
          exact List.mem_append.2 (.inl (cj p e))
      · intro i hi t
        rcases List.mem_append.1 hi with g | g
        · exact fr i g t
        · simp at g; subst g
          intro e
          rw [it_front] at e
          cases es : sc nm i with
          | none => rw [es] at e; cases e
          | some p =>
            rw [es] at e
            exact hn (away t p i (cj p es) e)
/-- all are done just if there is no circle -/
theorem ord_all {nm : List (List Nat)} (ho : Oneful nm) {b : List Nat} (hb : Bst (sc nm) nm.length b) : b = [] ↔ (ord nm).length = nm.length := by
  rw [hb.none]
  constructor
  · intro a
    have hall : ∀ i, i < nm.length → i ∈ ord nm := by
      intro i hi
      by_cases e : i ∈ ord nm
      · exact e
      · obtain ⟨j, L, hj, f⟩ := stuck_circle ho (ord_stuck nm) hi e
        exact (a j hj L f).elim
    have h1 := wo_len nm nm.length
    have h2 : nm.length ≤ (ord nm).length := by
      rcases Nat.lt_or_ge (ord nm).length nm.length with g | g
      · exfalso
        obtain ⟨x, y, h1, h2, h3⟩ := pigeon (ord nm).length (fun i => (ord nm).idxOf i) (by
          intro i hi
          exact List.idxOf_lt_length_of_mem (hall i (by omega)))
        have e1 := List.getElem_idxOf (x := x) (List.idxOf_lt_length_of_mem (hall x (by omega)))
        have e2 := List.getElem_idxOf (x := y) (List.idxOf_lt_length_of_mem (hall y (by omega)))
        simp only [h3] at e1
        omega
      · exact g
    exact Nat.le_antisymm h1 h2
  · intro a i hi L f
    have hin : i ∈ ord nm := by
      by_cases e : i ∈ ord nm
      · exact e
      · exfalso
        have := nodup_len (i :: ord nm) nm.length (List.nodup_cons.2 ⟨e, wo_nodup _ _⟩) (by
          intro x hx
          rcases List.mem_cons.1 hx with g | g
          · omega
          · exact wo_lt _ _ x g)
        simp at this
        omega
    have := (done_free ho nm.length).2 i hin (L - 1)
    rw [show L - 1 + 1 = L by have := f.1; omega] at this
    exact this f.2.1
end Go.Proofs.Ytkkmikgeppkhiaa
