/-
  What is wrong with a list of features, found step by step.
-/
import Derived.Test.YtkkmikgeppkhiaaCiMathF
namespace Go.Proofs.Ytkkmikgeppkhiaa
open Go.ChangeShapes Go.WideShapes Go.ChangeAt Go.RowKit
set_option linter.unusedVariables false
set_option linter.unusedSimpArgs false

theorem it_lt {nm : List (List Nat)} (ho : Oneful nm) {i : Nat} (hi : i < nm.length) : ∀ (t x : Nat), it (sc nm) t i = some x → x < nm.length := by
  intro t
  cases t with
  | zero => intro x h; cases h; exact hi
  | succ t =>
    intro x h
    rw [it] at h
    cases e : it (sc nm) t i with
    | none => rw [e] at h; cases h
    | some a => rw [e] at h; exact (sc_lt ho h).2
theorem path_mem {s : Nat → Option Nat} {L i x : Nat} (h : x ∈ path s L i) : ∃ t, t < L ∧ x = (it s t i).getD 0 := by
  induction L with
  | zero => simp [path] at h
  | succ L ih =>
    rcases List.mem_append.1 h with g | g
    · obtain ⟨t, h1, h2⟩ := ih g
      exact ⟨t, by omega, h2⟩
    · simp only [List.mem_singleton] at g
      exact ⟨L, by omega, g⟩
theorem Cyc.lt {nm : List (List Nat)} (ho : Oneful nm) {i : Nat} (hi : i < nm.length) {c : List Nat} (h : Cyc (sc nm) i c) : ∀ x ∈ c, x < nm.length := by
  rcases h with ⟨L, f, rfl⟩ | ⟨_, rfl⟩
  · intro x hx
    obtain ⟨t, ht, rfl⟩ := path_mem hx
    obtain ⟨p, hp, _⟩ := f.rest ht
    rw [hp]
    exact it_lt ho hi t p hp
  · simp
/-- no two steps of a circle meet -/
theorem First.inj {s : Nat → Option Nat} {i L : Nat} (f : First s i i L) : ∀ (a b : Nat), a < b → b < L → it s a i ≠ it s b i := by
  intro a b hab hb e
  obtain ⟨p, hp, fp⟩ := f.rest (show a < L by omega)
  obtain ⟨q, hq, fq⟩ := f.rest hb
  rw [hp, hq] at e
  cases e
  have := fp.uniq fq
  omega
theorem Cyc.len {nm : List (List Nat)} (ho : Oneful nm) {i : Nat} (hi : i < nm.length) {c : List Nat} (h : Cyc (sc nm) i c) : c.length ≤ nm.length := by
  rcases h with ⟨L, f, rfl⟩ | ⟨_, rfl⟩
  · rw [path_len]
    rcases Nat.lt_or_ge nm.length L with g | g
    · exfalso
      obtain ⟨a, b, h1, h2, h3⟩ := pigeon nm.length (fun t => (it (sc nm) t i).getD 0) (by
        intro t ht
        obtain ⟨p, hp, _⟩ := f.rest (show t < L by omega)
        simp only [hp, Option.getD_some]
        exact it_lt ho hi t p hp)
      obtain ⟨p, hp, _⟩ := f.rest (show a < L by omega)
      obtain ⟨q, hq, _⟩ := f.rest (show b < L by omega)
      simp only [hp, hq, Option.getD_some] at h3
      exact f.inj a b h1 (by omega) (by rw [hp, hq, h3])
    · exact g
  · simp
theorem Bst.lt {nm : List (List Nat)} {k : Nat} {b : List Nat} (h : Bst (sc nm) k b) (ho : Oneful nm) (hk : k ≤ nm.length) : ∀ x ∈ b, x < nm.length := by
  induction k generalizing b with
  | zero => rw [show b = [] from h]; simp
  | succ k ih =>
    obtain ⟨b0, c, h1, h2, rfl⟩ := h
    unfold better
    split
    · exact h2.lt ho (by omega)
    · exact ih h1 (by omega)
theorem Bst.len {nm : List (List Nat)} {k : Nat} {b : List Nat} (h : Bst (sc nm) k b) (ho : Oneful nm) (hk : k ≤ nm.length) : b.length ≤ nm.length := by
  induction k generalizing b with
  | zero => rw [show b = [] from h]; simp
  | succ k ih =>
    obtain ⟨b0, c, h1, h2, rfl⟩ := h
    unfold better
    split
    · exact h2.len ho (by omega)
    · exact ih h1 (by omega)
theorem find_first {α : Type} {l : List α} {P : α → Bool} {i : Nat} {a : α} (h : l[i]? = some a) (ha : P a = true) (hb : ∀ (j : Nat) (b : α), j < i → l[j]? = some b → P b = false) : l.find? P = some a := by
  induction l generalizing i with
  | nil => cases h
  | cons x l ih =>
    cases i with
    | zero => simp only [List.getElem?_cons_zero, Option.some.injEq] at h; subst h; simp [ha]
    | succ i =>
      have hx := hb 0 x (by omega) rfl
      rw [List.find?_cons, hx]
      exact ih (i := i) (by simpa using h) (fun j b hj hl => hb (j + 1) b (by omega) (by simpa using hl))
theorem find_none {α : Type} {l : List α} {P : α → Bool} (hb : ∀ (j : Nat) (b : α), l[j]? = some b → P b = false) : l.find? P = none := by
  rw [List.find?_eq_none]
  intro x hx
  obtain ⟨j, hj, rfl⟩ := List.getElem_of_mem hx
  rw [hb j _ (List.getElem?_eq_getElem hj)]
  simp
theorem findN_take {fs : List Ft} {i : Nat} {s : ByteArray} : findN (fs.take i) s = none ↔ ((fs.take i).any fun g => sEq g.nm s) = false := by
  unfold findN
  rw [List.findIdx?_eq_none_iff, List.any_eq_false]
  constructor
  · intro h x hx; simp [h x hx]
  · intro h x hx; simpa using h x hx
theorem getD_at {fs : List Ft} {i : Nat} {f : Ft} (h : fs[i]? = some f) : fs.getD i ft0 = f := by rw [List.getD_eq_getElem?_getD, h]; rfl
theorem twi_some {fs : List Ft} {i : Nat} {f : Ft} (h : fs[i]? = some f) (h1 : findN (fs.take i) f.nm ≠ none) (h2 : ∀ (j : Nat) (g : Ft), j < i → fs[j]? = some g → findN (fs.take j) g.nm = none) : twi fs = some f := by
  unfold twi
  have e : (List.range fs.length).find? (fun i => ((fs.take i).any fun g => sEq g.nm (fs.getD i ft0).nm)) = some i := by
    rw [List.find?_range_eq_some]
    refine ⟨?_, by simpa using (List.getElem?_eq_some_iff.1 h).1, fun j hj => ?_⟩
    · rw [getD_at h]
      cases e : (fs.take i).any fun g => sEq g.nm f.nm
      · exact (h1 (findN_take.2 e)).elim
      · rfl
    · have hl : j < fs.length := Nat.lt_trans hj (List.getElem?_eq_some_iff.1 h).1
      have hg : fs[j]? = some fs[j] := List.getElem?_eq_getElem hl
      rw [getD_at hg, findN_take.1 (h2 j _ hj hg)]
      rfl
  rw [e, Option.map_some, getD_at h]
theorem twi_none {fs : List Ft} (h2 : ∀ (j : Nat) (g : Ft), fs[j]? = some g → findN (fs.take j) g.nm = none) : twi fs = none := by
  unfold twi
  rw [Option.map_eq_none_iff, List.find?_eq_none]
  intro j hj
  have hl : j < fs.length := by simpa using hj
  have hg : fs[j]? = some fs[j] := List.getElem?_eq_getElem hl
  rw [getD_at hg, findN_take.1 (h2 j _ hg)]
  simp
theorem twi_none' {fs : List Ft} (h : twi fs = none) (j : Nat) (g : Ft) (hg : fs[j]? = some g) : findN (fs.take j) g.nm = none := by
  unfold twi at h
  rw [Option.map_eq_none_iff, List.find?_eq_none] at h
  have := h j (by simpa using (List.getElem?_eq_some_iff.1 hg).1)
  rw [getD_at hg] at this
  exact findN_take.2 (by simpa using this)
theorem find_not {α : Type} {l : List α} {P : α → Bool} (h : l.find? P = none) {a : α} (ha : a ∈ l) : P a = false := by
  rw [List.find?_eq_none] at h
  simpa using h a ha
theorem ftr_one {f : Ft} (h : ftr f = true) : emp f.on = true ∨ emp f.ov = true := by
  unfold ftr at h
  cases h1 : emp f.on <;> cases h2 : emp f.ov <;> simp [h1, h2] at h ⊢
theorem chk_long {fs : List Ft} (h : 4096 < fs.length) : Chk fs 2 [] := by unfold Chk; rw [if_pos h]; exact ⟨rfl, rfl⟩
theorem chk_many {fs : List Ft} (h : ¬ 4096 < fs.length) (h1 : 30 < fs.length) : Chk fs 10 [] := by unfold Chk; rw [if_neg h, if_pos h1]; exact ⟨rfl, rfl⟩
theorem chk_bad {fs : List Ft} (h : ¬ 30 < fs.length) {f : Ft} (hf : fs.find? (fun f => !ftr f) = some f) : Chk fs 1 [f.nm] := by unfold Chk; rw [if_neg (by omega), if_neg h, hf]; exact ⟨rfl, rfl⟩
theorem chk_twice {fs : List Ft} (h : ¬ 30 < fs.length) (hf : fs.find? (fun f => !ftr f) = none) {f : Ft} (ht : twi fs = some f) : Chk fs 7 [f.nm] := by unfold Chk; rw [if_neg (by omega), if_neg h, hf]; simp only; rw [ht]; simp only; exact ⟨trivial, trivial⟩
theorem chk_name {fs : List Ft} (h : ¬ 30 < fs.length) (hf : fs.find? (fun f => !ftr f) = none) (ht : twi fs = none) {f : Ft} (hw : fs.find? (fun f => (wrg fs f).isSome) = some f) : Chk fs 6 [f.nm, (wrg fs f).getD ⟨#[]⟩] := by unfold Chk; rw [if_neg (by omega), if_neg h, hf]; simp only; rw [ht]; simp only; rw [hw]; simp only; exact ⟨trivial, trivial⟩
theorem chk_end {fs : List Ft} (h : ¬ 30 < fs.length) (hf : fs.find? (fun f => !ftr f) = none) (ht : twi fs = none) (hw : fs.find? (fun f => (wrg fs f).isSome) = none) {b : List Nat} (hb : Bst (sc (nms fs)) fs.length b) : Chk fs (if b = [] then 0 else 9) (b.map (fun i => (fs.getD i ft0).nm)) := by unfold Chk; rw [if_neg (by omega), if_neg h, hf]; simp only; rw [ht]; simp only; rw [hw]; exact ⟨b, hb, rfl, rfl⟩
theorem wrg_emp {fs : List Ft} {f : Ft} {s : ByteArray} (h : wrg fs f = some s) : emp s = false := by
  unfold wrg at h
  split at h
  · rename_i e
    cases h
    exact e.1
  · split at h
    · rename_i e
      split at h
      · cases h; exact e
      · split at h
        · cases h; exact e
        · cases h
    · cases h
/-- what the model tells of wrong names tells whether there are any -/
theorem wrgS_iff {fs : List Ft} {f : Ft} : emp (wrgS fs f) = true ↔ wrg fs f = none := by
  unfold wrgS
  cases h : wrg fs f with
  | none => simp [emp_iff]
  | some s => simp [wrg_emp h]
end Go.Proofs.Ytkkmikgeppkhiaa
