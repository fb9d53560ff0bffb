/-
  Groups that are tied: the model's two forests and the program's labels tell the same.
-/
import Derived.Test.YtchdmigeopmacaaGlue
namespace Go.Proofs.Ytchdmigeopmacaa
set_option linter.unusedVariables false

/-- a forest of m nodes: g the next one, cl the root, d a height -/
structure Fo (m : Nat) (g : List Int) (cl : Nat → Nat) (d : Nat → Nat) : Prop where
  len : g.length = m
  root : ∀ i, i < m → cl i < m ∧ gt g (cl i) = (cl i : Int)
  self : ∀ i, i < m → gt g i = (i : Int) → cl i = i
  up : ∀ i, i < m → gt g i ≠ (i : Int) → ∃ j : Nat, gt g i = (j : Int) ∧ j < m ∧ d j < d i ∧ cl j = cl i
theorem Fo.cl_cl {m : Nat} {g : List Int} {cl d : Nat → Nat} (h : Fo m g cl d) {i : Nat} (hi : i < m) : cl (cl i) = cl i := h.self _ (h.root i hi).1 (h.root i hi).2
/-- how many roots there are -/
def rts (m : Nat) (g : List Int) : Nat := (List.range m).countP fun i => decide (gt g i = (i : Int))
def tieC (cl : Nat → Nat) (a b : Nat) : Nat → Nat := fun i => if cl i = cl a then cl b else cl i
def tieD (cl d : Nat → Nat) (a b : Nat) : Nat → Nat := fun i => if cl i = cl a then d i + (d (cl b) + 1) else d i
theorem Fo.tie {m : Nat} {g : List Int} {cl d : Nat → Nat} (h : Fo m g cl d) {a b : Nat} (ha : a < m) (hb : b < m) (hne : cl a ≠ cl b) :
    Fo m (g.set (cl a) (cl b : Int)) (tieC cl a b) (tieD cl d a b) := by
  have hA := h.root a ha
  have hB := h.root b hb
  have cA := h.cl_cl ha
  have cB := h.cl_cl hb
  have hs : ∀ i, gt (g.set (cl a) (cl b : Int)) i = if i = cl a then (cl b : Int) else gt g i := fun i => gt_set g (cl a) i _ (by rw [h.len]; exact hA.1)
  refine ⟨by simp [h.len], fun i hi => ?_, fun i hi he => ?_, fun i hi he => ?_⟩
  · unfold tieC
    split
    · refine ⟨hB.1, ?_⟩
      rw [hs, if_neg (Ne.symm hne)]
      exact hB.2
    · rename_i hc
      have hi' := h.root i hi
      refine ⟨hi'.1, ?_⟩
      rw [hs, if_neg hc]
      exact hi'.2
  · rw [hs] at he
    by_cases hia : i = cl a
    · rw [if_pos hia] at he
      omega
    · rw [if_neg hia] at he
      have := h.self i hi he
      unfold tieC
      rw [this, if_neg hia]
  · rw [hs] at he ⊢
    by_cases hia : i = cl a
    · rw [if_pos hia] at he ⊢
      refine ⟨cl b, rfl, hB.1, ?_, ?_⟩
      · unfold tieD
        rw [cB, if_neg (Ne.symm hne), hia, cA, if_pos rfl]
        omega
      · unfold tieC
        rw [cB, if_neg (Ne.symm hne), hia, cA, if_pos rfl]
    · rw [if_neg hia] at he ⊢
      obtain ⟨j, h1, h2, h3, h4⟩ := h.up i hi he
      refine ⟨j, h1, h2, ?_, ?_⟩
      · unfold tieD
        rw [h4]
        split <;> omega
      · unfold tieC
        rw [h4]
theorem countP_one {p q : Nat → Bool} : ∀ (m a : Nat), a < m → p a = true → q a = false → (∀ i, i < m → i ≠ a → q i = p i) → (List.range m).countP q + 1 = (List.range m).countP p := by
  intro m
  induction m with
  | zero => intro a h; omega
  | succ m ih =>
    intro a ha hp hq hr
    rw [List.range_succ, List.countP_append, List.countP_append]
    by_cases h : a = m
    · subst h
      have e : (List.range a).countP q = (List.range a).countP p := by
        apply List.countP_congr
        intro i hi
        have : i < a := by simpa using hi
        rw [hr i (by omega) (by omega)]
      rw [e]
      simp [hp, hq]
    · have := ih a (by omega) hp hq (fun i hi hne => hr i (by omega) hne)
      have e2 : q m = p m := hr m (by omega) (fun e => h e.symm)
      simp [e2]
      omega
theorem rts_tie {m : Nat} {g : List Int} {cl d : Nat → Nat} (h : Fo m g cl d) {a b : Nat} (ha : a < m) (hb : b < m) (hne : cl a ≠ cl b) : rts m (g.set (cl a) (cl b : Int)) + 1 = rts m g := by
  have hA := h.root a ha
  have hs : ∀ i, gt (g.set (cl a) (cl b : Int)) i = if i = cl a then (cl b : Int) else gt g i := fun i => gt_set g (cl a) i _ (by rw [h.len]; exact hA.1)
  refine countP_one m (cl a) hA.1 (decide_eq_true hA.2) ?_ ?_
  · show decide (gt (g.set (cl a) (cl b : Int)) (cl a) = ((cl a : Nat) : Int)) = false
    rw [hs, if_pos rfl]
    exact decide_eq_false (by omega)
  · intro i hi hne'
    show decide (gt (g.set (cl a) (cl b : Int)) i = (i : Int)) = decide (gt g i = (i : Int))
    rw [hs, if_neg hne']
/-- the roots that nothing is not tied to -/
def freeOf (N : Nat) (cl : Nat → Nat) : Nat := (List.range N).countP fun i => decide (cl i = i) && decide (cl N ≠ i)
theorem free_rts {N : Nat} {g : List Int} {cl d : Nat → Nat} (h : Fo (N + 1) g cl d) : freeOf N cl + 1 = rts (N + 1) g := by
  have hN := h.root N (by omega)
  have e1 : freeOf N cl = (List.range (N + 1)).countP fun i => decide (cl i = i) && decide (cl N ≠ i) := by
    unfold freeOf
    rw [List.range_succ, List.countP_append]
    by_cases hc : cl N = N
    · simp [hc]
    · simp [hc]
  rw [e1]
  refine countP_one (N + 1) (cl N) hN.1 (decide_eq_true hN.2) (by simp) ?_
  intro i hi hne
  have e2 : decide (cl N ≠ i) = true := decide_eq_true (fun e => hne e.symm)
  rw [e2, Bool.and_true]
  by_cases hs : gt g i = (i : Int)
  · rw [decide_eq_true hs, decide_eq_true (h.self i hi hs)]
  · rw [decide_eq_false hs, decide_eq_false]
    intro e
    have := (h.root i hi).2
    rw [e] at this
    exact hs this

/-- the program's tie: labels, freedoms, whether it was new -/
def relab (lab : List Int) (f t : Int) : List Int := lab.map fun x => if x = f then t else x
def tieL (s : List Int × Int) (lo hi : Nat) : (List Int × Int) × Bool :=
  if gt s.1 hi = gt s.1 lo then (s, false) else ((relab s.1 (gt s.1 hi) (gt s.1 lo), s.2 - 1), true)
theorem relab_len (lab : List Int) (f t : Int) : (relab lab f t).length = lab.length := by simp [relab]
theorem gt_relab {lab : List Int} {f t : Int} {i : Nat} (h : i < lab.length) : gt (relab lab f t) i = if gt lab i = f then t else gt lab i := by
  unfold gt relab
  rw [List.getD_eq_getElem?_getD, List.getD_eq_getElem?_getD, List.getElem?_map, List.getElem?_eq_getElem h]
  rfl
/-- the place of a node of an axis (k is 1 for X, 2 for Y) in the row of all coordinates -/
def plc (N k i : Nat) : Nat := if i < N then 2 * i + k else 0
structure Cor (N : Nat) (cx cy : Nat → Nat) (lab : List Int) : Prop where
  len : lab.length = 2 * N + 1
  x : ∀ i j, i ≤ N → j ≤ N → (cx i = cx j ↔ gt lab (plc N 1 i) = gt lab (plc N 1 j))
  y : ∀ i j, i ≤ N → j ≤ N → (cy i = cy j ↔ gt lab (plc N 2 i) = gt lab (plc N 2 j))
  xy : ∀ i j, i ≤ N → j ≤ N → gt lab (plc N 1 i) = gt lab (plc N 2 j) → gt lab (plc N 1 i) = gt lab 0
theorem plc_lt {N k i : Nat} (hk : k ≤ 2) (hi : i ≤ N) : plc N k i < 2 * N + 1 := by unfold plc; split <;> omega
theorem plc_N (N k : Nat) : plc N k N = 0 := if_neg (by omega)
theorem Cor.swap {N : Nat} {cx cy : Nat → Nat} {lab : List Int} (h : Cor N cx cy lab) : ∀ i j, i ≤ N → j ≤ N → gt lab (plc N 2 i) = gt lab (plc N 1 j) → gt lab (plc N 2 i) = gt lab 0 :=
  fun i j hi hj e => by rw [e]; exact h.xy j i hj hi e.symm
/-- classes of the one axis are tied, of the other they stay -/
theorem ax_tie {N k : Nat} {c : Nat → Nat} {lab : List Int} {a b : Nat} (hk : k ≤ 2) (hl : lab.length = 2 * N + 1) (h : ∀ i j, i ≤ N → j ≤ N → (c i = c j ↔ gt lab (plc N k i) = gt lab (plc N k j))) (ha : a ≤ N) (hb : b ≤ N) (hne : c a ≠ c b) (f t : Int)
    (hft : (f = gt lab (plc N k a) ∧ t = gt lab (plc N k b)) ∨ (f = gt lab (plc N k b) ∧ t = gt lab (plc N k a))) :
    ∀ i j, i ≤ N → j ≤ N → (tieC c a b i = tieC c a b j ↔ gt (relab lab f t) (plc N k i) = gt (relab lab f t) (plc N k j)) := by
  intro i j hi hj
  rw [gt_relab (by rw [hl]; exact plc_lt hk hi), gt_relab (by rw [hl]; exact plc_lt hk hj)]
  have hij := h i j hi hj
  have hia := h i a hi ha
  have hja := h j a hj ha
  have hib := h i b hi hb
  have hjb := h j b hj hb
  have hab := h a b ha hb
  unfold tieC
  rcases hft with ⟨rfl, rfl⟩ | ⟨rfl, rfl⟩
  · by_cases h1 : c i = c a
    · rw [if_pos h1, if_pos (hia.1 h1)]
      by_cases h2 : c j = c a
      · rw [if_pos h2, if_pos (hja.1 h2)]; exact ⟨fun _ => rfl, fun _ => rfl⟩
      · rw [if_neg h2, if_neg (fun e => h2 (hja.2 e))]
        exact ⟨fun e => (hjb.1 e.symm).symm, fun e => (hjb.2 e.symm).symm⟩
    · rw [if_neg h1, if_neg (fun e => h1 (hia.2 e))]
      by_cases h2 : c j = c a
      · rw [if_pos h2, if_pos (hja.1 h2)]; exact hib
      · rw [if_neg h2, if_neg (fun e => h2 (hja.2 e))]; exact hij
  · by_cases h1 : c i = c a
    · rw [if_pos h1]
      have e1 : gt lab (plc N k i) = gt lab (plc N k a) := hia.1 h1
      rw [if_neg (fun e => hne (hab.2 (e1.symm.trans e))), e1]
      by_cases h2 : c j = c a
      · rw [if_pos h2, if_neg (fun e => hne (hab.2 ((hja.1 h2).symm.trans e))), hja.1 h2]
        exact ⟨fun _ => rfl, fun _ => rfl⟩
      · rw [if_neg h2]
        by_cases h3 : gt lab (plc N k j) = gt lab (plc N k b)
        · rw [if_pos h3]
          exact ⟨fun _ => rfl, fun _ => (hjb.2 h3).symm⟩
        · rw [if_neg h3]
          exact ⟨fun e => absurd (hjb.1 e.symm) h3, fun e => absurd (hja.2 e.symm) h2⟩
    · rw [if_neg h1]
      have n1 : ¬ gt lab (plc N k i) = gt lab (plc N k a) := fun e => h1 (hia.2 e)
      by_cases h2 : c j = c a
      · rw [if_pos h2, if_neg (fun e => hne (hab.2 ((hja.1 h2).symm.trans e))), hja.1 h2]
        by_cases h3 : gt lab (plc N k i) = gt lab (plc N k b)
        · rw [if_pos h3]
          exact ⟨fun _ => rfl, fun _ => hib.2 h3⟩
        · rw [if_neg h3]
          exact ⟨fun e => absurd (hib.1 e) h3, fun e => absurd e n1⟩
      · rw [if_neg h2]
        have n2 : ¬ gt lab (plc N k j) = gt lab (plc N k a) := fun e => h2 (hja.2 e)
        by_cases h3 : gt lab (plc N k i) = gt lab (plc N k b)
        · rw [if_pos h3]
          by_cases h4 : gt lab (plc N k j) = gt lab (plc N k b)
          · rw [if_pos h4]
            exact ⟨fun _ => rfl, fun _ => hij.2 (h3.trans h4.symm)⟩
          · rw [if_neg h4]
            exact ⟨fun e => absurd ((hij.1 e).symm.trans h3) h4, fun e => absurd e.symm n2⟩
        · rw [if_neg h3]
          by_cases h4 : gt lab (plc N k j) = gt lab (plc N k b)
          · rw [if_pos h4]
            exact ⟨fun e => absurd ((hij.1 e).trans h4) h3, fun e => absurd e n1⟩
          · rw [if_neg h4]
            exact hij
theorem ax_stay {N k k' : Nat} {c : Nat → Nat} {lab : List Int} {a b : Nat} (hk : k ≤ 2) (hk' : k' ≤ 2) (hl : lab.length = 2 * N + 1) (h : ∀ i j, i ≤ N → j ≤ N → (c i = c j ↔ gt lab (plc N k i) = gt lab (plc N k j)))
    (hx : ∀ i j, i ≤ N → j ≤ N → gt lab (plc N k i) = gt lab (plc N k' j) → gt lab (plc N k i) = gt lab 0) (ha : a ≤ N) (hb : b ≤ N) (hne : ¬ gt lab (plc N k' a) = gt lab (plc N k' b)) (f t : Int)
    (hft : (f = gt lab (plc N k' a) ∧ t = gt lab (plc N k' b)) ∨ (f = gt lab (plc N k' b) ∧ t = gt lab (plc N k' a))) :
    ∀ i j, i ≤ N → j ≤ N → (c i = c j ↔ gt (relab lab f t) (plc N k i) = gt (relab lab f t) (plc N k j)) := by
  intro i j hi hj
  rw [gt_relab (by rw [hl]; exact plc_lt hk hi), gt_relab (by rw [hl]; exact plc_lt hk hj), h i j hi hj]
  have both : ∀ i j, i ≤ N → j ≤ N → gt lab (plc N k i) = f → gt lab (plc N k j) = t → False := by
    intro i j hi hj e1 e2
    rcases hft with ⟨rfl, rfl⟩ | ⟨rfl, rfl⟩
    · have h1 := hx i a hi ha e1
      have h2 := hx j b hj hb e2
      exact hne (by rw [← e1, ← e2, h1, h2])
    · have h1 := hx i b hi hb e1
      have h2 := hx j a hj ha e2
      exact hne (by rw [← e1, ← e2, h1, h2])
  by_cases h1 : gt lab (plc N k i) = f
  · rw [if_pos h1]
    by_cases h2 : gt lab (plc N k j) = f
    · rw [if_pos h2, h1, h2]; exact ⟨fun _ => rfl, fun _ => rfl⟩
    · rw [if_neg h2]
      exact ⟨fun e => absurd (e.symm.trans h1) h2, fun e => (both i j hi hj h1 e.symm).elim⟩
  · rw [if_neg h1]
    by_cases h2 : gt lab (plc N k j) = f
    · rw [if_pos h2]
      exact ⟨fun e => absurd (e.trans h2) h1, fun e => (both j i hj hi h2 e).elim⟩
    · rw [if_neg h2]
end Go.Proofs.Ytchdmigeopmacaa
