/-
  What is wrong with a polygon, in plain words; the model's way and the program's way of asking it are one.
-/
import Derived.Test.YtegfghpaldnpeaaPlane
namespace Go.Proofs.Ytegfghpaldnpeaa

def ptAt (L : List Pt) (i : Nat) : Pt := L.getD i (0, 0)
def firstI (p : Nat → Bool) (n : Nat) : Option Nat := (List.range n).find? p
theorem firstI_some {p : Nat → Bool} {n i : Nat} (h : ∀ j, j < i → p j = false) (hi : i < n) (hp : p i = true) : firstI p n = some i := by
  unfold firstI
  rw [List.find?_range_eq_some]
  exact ⟨hp, by simpa using hi, fun j hj => by simp [h j hj]⟩
theorem firstI_none {p : Nat → Bool} {n : Nat} (h : ∀ j, j < n → p j = false) : firstI p n = none := by
  unfold firstI
  rw [List.find?_eq_none]
  intro x hx
  simp [h x (by simpa using hx)]
theorem firstI_none_iff {p : Nat → Bool} {n : Nat} (h : firstI p n = none) (j : Nat) (hj : j < n) : p j = false := by
  unfold firstI at h
  rw [List.find?_eq_none] at h
  have := h j (by simpa using hj)
  simpa using this
theorem firstI_congr {p q : Nat → Bool} {n : Nat} (h : ∀ j, j < n → p j = q j) : firstI p n = firstI q n := by
  unfold firstI
  induction n with
  | zero => rfl
  | succ n ih =>
    rw [List.range_succ, List.find?_append, List.find?_append, ih (fun j hj => h j (by omega))]
    congr 1
    simp [h n (by omega)]

/-- how many spots the sides i and k have in common -/
def crossN (L : List Pt) (i k : Nat) : Nat := (cross (ptAt L i) (ptAt L ((i + 1) % L.length)) (ptAt L k) (ptAt L ((k + 1) % L.length))).length
def mostK (n i k : Nat) : Nat := if k = (i + 1) % n ∨ i = (k + 1) % n then 1 else 0
def wrongK (L : List Pt) (i k : Nat) : Bool := decide (k ≠ i) && decide (mostK L.length i k < crossN L i k)
def wrongI (L : List Pt) (i : Nat) : Bool := (List.range L.length).any (wrongK L i)
def dupI (L : List Pt) (i : Nat) : Bool := (List.range i).any fun k => decide (ptAt L k = ptAt L i)
def badI (L : List Pt) (i : Nat) : Bool := !ptOk (ptAt L i)
/-- the code and the number -/
def pcode (L : List Pt) : Int × Int :=
  if 4096 < L.length then (2, 0) else if 200 < L.length then (10, 0) else
  match firstI (badI L) L.length with
  | some i => (1, (i : Int))
  | none =>
    if L.length < 3 then (3, 0) else
    match firstI (dupI L) L.length with
    | some i => (7, (i : Int))
    | none =>
      match firstI (wrongI L) L.length with
      | some i => (13, (i : Int))
      | none => (0, 0)
theorem pc_long {L : List Pt} (h : 4096 < L.length) : pcode L = (2, 0) := by unfold pcode; rw [if_pos h]
theorem pc_many {L : List Pt} (h : ¬ 4096 < L.length) (h2 : 200 < L.length) : pcode L = (10, 0) := by unfold pcode; rw [if_neg h, if_pos h2]
theorem pc_bad {L : List Pt} (h2 : ¬ 200 < L.length) {i : Nat} (hi : firstI (badI L) L.length = some i) : pcode L = (1, (i : Int)) := by
  unfold pcode; rw [if_neg (by omega), if_neg h2, hi]
theorem pc_form {L : List Pt} (h2 : ¬ 200 < L.length) (hi : firstI (badI L) L.length = none) (h3 : L.length < 3) : pcode L = (3, 0) := by
  unfold pcode; rw [if_neg (by omega), if_neg h2, hi]; simp [h3]
theorem pc_dup {L : List Pt} (h2 : ¬ 200 < L.length) (hi : firstI (badI L) L.length = none) (h3 : ¬ L.length < 3) {i : Nat} (hd : firstI (dupI L) L.length = some i) : pcode L = (7, (i : Int)) := by
  unfold pcode; rw [if_neg (by omega), if_neg h2, hi]; simp [h3, hd]
theorem pc_wrong {L : List Pt} (h2 : ¬ 200 < L.length) (hi : firstI (badI L) L.length = none) (h3 : ¬ L.length < 3) (hd : firstI (dupI L) L.length = none) {i : Nat} (hw : firstI (wrongI L) L.length = some i) : pcode L = (13, (i : Int)) := by
  unfold pcode; rw [if_neg (by omega), if_neg h2, hi]; simp [h3, hd, hw]
theorem pc_ok {L : List Pt} (h2 : ¬ 200 < L.length) (hi : firstI (badI L) L.length = none) (h3 : ¬ L.length < 3) (hd : firstI (dupI L) L.length = none) (hw : firstI (wrongI L) L.length = none) : pcode L = (0, 0) := by
  unfold pcode; rw [if_neg (by omega), if_neg h2, hi]; simp [h3, hd, hw]

theorem any_range_true {p : Nat → Bool} {n k : Nat} (hk : k < n) (h : p k = true) : (List.range n).any p = true := by
  rw [List.any_eq_true]; exact ⟨k, by simpa using hk, h⟩
theorem any_range_false {p : Nat → Bool} {n : Nat} (h : ∀ k, k < n → p k = false) : (List.range n).any p = false := by
  rw [List.any_eq_false]; intro x hx; simp [h x (by simpa using hx)]
theorem ptAt_some {L : List Pt} {i : Nat} (h : i < L.length) : L[i]? = some (ptAt L i) := by
  unfold ptAt; rw [List.getD_eq_getElem?_getD, List.getElem?_eq_getElem h]; rfl

/-! the program's way: by values -/
abbrev Sg := Pt × Pt
def sides (L : List Pt) : List Sg := (List.range L.length).map fun i => (ptAt L i, ptAt L ((i + 1) % L.length))
def mostV (s o : Sg) : Nat := if s.2 = o.1 ∨ o.2 = s.1 then 1 else 0
def wrongV (s o : Sg) : Bool := decide (o ≠ s) && decide (mostV s o < (cross s.1 s.2 o.1 o.2).length)
def meets (S : List Sg) (s : Sg) : Bool := S.any (wrongV s)
theorem no_dup {L : List Pt} (h : firstI (dupI L) L.length = none) {i j : Nat} (hi : i < L.length) (hj : j < L.length) (he : ptAt L i = ptAt L j) : i = j := by
  have key : ∀ a b, a < b → b < L.length → ptAt L a ≠ ptAt L b := by
    intro a b hab hb he
    have h1 := firstI_none_iff h b hb
    unfold dupI at h1
    rw [List.any_eq_false] at h1
    exact h1 a (by simpa using hab) (by simp [he])
  rcases Nat.lt_trichotomy i j with h1 | h1 | h1
  · exact absurd he (key i j h1 hj)
  · exact h1
  · exact absurd he.symm (key j i h1 hi)
theorem meets_wrong {L : List Pt} (h : firstI (dupI L) L.length = none) {i : Nat} (hi : i < L.length) : meets (sides L) (ptAt L i, ptAt L ((i + 1) % L.length)) = wrongI L i := by
  unfold meets sides wrongI
  rw [List.any_map]
  have hm : ∀ k, (k + 1) % L.length < L.length := fun k => Nat.mod_lt _ (by omega)
  rw [Bool.eq_iff_iff, List.any_eq_true, List.any_eq_true]
  have e : ∀ k, k < L.length → wrongV (ptAt L i, ptAt L ((i + 1) % L.length)) (ptAt L k, ptAt L ((k + 1) % L.length)) = wrongK L i k := by
    intro k hk
    unfold wrongV wrongK mostV mostK crossN
    have e1 : ((ptAt L k, ptAt L ((k + 1) % L.length)) = (ptAt L i, ptAt L ((i + 1) % L.length))) ↔ k = i := by
      constructor
      · intro hh; exact no_dup h hk hi (Prod.mk.inj hh).1
      · intro hh; rw [hh]
    have e2 : (ptAt L ((i + 1) % L.length) = ptAt L k) ↔ k = (i + 1) % L.length := ⟨fun hh => (no_dup h (hm i) hk hh).symm, fun hh => by rw [← hh]⟩
    have e3 : (ptAt L ((k + 1) % L.length) = ptAt L i) ↔ i = (k + 1) % L.length := ⟨fun hh => (no_dup h (hm k) hi hh).symm, fun hh => by rw [← hh]⟩
    simp only [ne_eq, e1, e2, e3]
  constructor
  · rintro ⟨k, hk, hw⟩
    exact ⟨k, hk, by rw [← e k (by simpa using hk)]; exact hw⟩
  · rintro ⟨k, hk, hw⟩
    exact ⟨k, hk, by rw [← e k (by simpa using hk)] at hw; exact hw⟩
end Go.Proofs.Ytegfghpaldnpeaa
