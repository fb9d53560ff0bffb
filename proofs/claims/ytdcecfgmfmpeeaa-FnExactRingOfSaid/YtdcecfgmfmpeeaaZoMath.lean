/-
  Strips along the sides of a hull, in lists.
-/
import Derived.Test.YtdcecfgmfmpeeaaHuLeft
namespace Go.Proofs.Ytdcecfgmfmpeeaa
set_option linter.unusedVariables false
set_option linter.unusedSimpArgs false

def ptAt (L : List Pt) (i : Nat) : Pt := L.getD i (0, 0)
theorem ptAt_some {L : List Pt} {i : Nat} (h : i < L.length) : L[i]? = some (ptAt L i) := by
  unfold ptAt
  rw [List.getD_eq_getElem?_getD, List.getElem?_eq_getElem h]
  rfl
theorem ptAt_of {L : List Pt} {i : Nat} {p : Pt} (h : L[i]? = some p) : ptAt L i = p := by
  unfold ptAt
  rw [List.getD_eq_getElem?_getD, h]
  rfl
/-- the number of the first point at a place -/
def fi (L : List Pt) (p : Pt) : Nat := (L.takeWhile fun q => decide (q ≠ p)).length
structure Fst (L : List Pt) (p : Pt) (j : Nat) : Prop where
  at' : L[j]? = some p
  no : ∀ i, i < j → L[i]? ≠ some p
theorem fi_fst {L : List Pt} {p : Pt} (h : p ∈ L) : Fst L p (fi L p) := by
  induction L with
  | nil => cases h
  | cons q L ih =>
    by_cases e : q = p
    · subst e
      have : fi (q :: L) q = 0 := by simp [fi]
      rw [this]
      exact ⟨rfl, fun i hi => by omega⟩
    · have h2 : p ∈ L := by
        rcases List.mem_cons.1 h with h | h
        · exact absurd h.symm e
        · exact h
      have he : fi (q :: L) p = fi L p + 1 := by simp [fi, e]
      obtain ⟨h3, h4⟩ := ih h2
      rw [he]
      refine ⟨by simpa using h3, fun i hi => ?_⟩
      cases i with
      | zero => simpa using e
      | succ i => simpa using h4 i (by omega)
theorem Fst.lt {L : List Pt} {p : Pt} {j : Nat} (h : Fst L p j) : j < L.length := (List.getElem?_eq_some_iff.1 h.at').1
/-- the farthest so far: the model's and the program's -/
def frM (f : Nat → Int) : Nat → Nat
  | 0 => 0
  | k + 1 => if f (frM f k) < f k then k else frM f k
def frP (f : Nat → Int) : Nat → Nat × Int
  | 0 => (0, 0)
  | k + 1 => if (frP f k).2 < f k then (k, f k) else frP f k
theorem frM_lt (f : Nat → Int) {n : Nat} (hn : 1 ≤ n) : ∀ k, k ≤ n → frM f k < n
  | 0, _ => by show 0 < n; omega
  | k + 1, h => by
    rw [frM]
    split
    · omega
    · exact frM_lt f hn k (by omega)
theorem fr_eq {f : Nat → Int} {n : Nat} (hf : ∀ k, k < n → 0 ≤ f k) : ∀ k, 1 ≤ k → k ≤ n → frP f k = (frM f k, f (frM f k))
  | 0, h, _ => by omega
  | 1, _, hn => by
    have h0 := hf 0 (by omega)
    show (if (0 : Int) < f 0 then (0, f 0) else (0, 0)) = (if f 0 < f 0 then 0 else 0, f (if f 0 < f 0 then 0 else 0))
    rw [if_neg (by omega : ¬ f 0 < f 0)]
    by_cases h : 0 < f 0
    · rw [if_pos h]
    · rw [if_neg h, show f 0 = 0 by omega]
  | k + 2, _, hn => by
    have ih := fr_eq hf (k + 1) (by omega) (by omega)
    rw [frP, frM, ih]
    split
    · rfl
    · rfl
structure Zo where
  A : Int
  B : Int
  C : Int
  N : Int
  D : Int
def sqd (a b : Pt) : Int := (a.1 - b.1) * (a.1 - b.1) + (a.2 - b.2) * (a.2 - b.2)
def zn (L : List Pt) (a b : Pt) : Zo := ⟨fi L a, fi L b, frM (fun k => side a b (ptAt L k)) L.length, side a b (ptAt L (frM (fun k => side a b (ptAt L k)) L.length)) * side a b (ptAt L (frM (fun k => side a b (ptAt L k)) L.length)), sqd a b⟩
/-- the first of the narrowest -/
def bst (z : Nat → Zo) : Nat → Zo
  | 0 => z 0
  | k + 1 => if (z (k + 1)).N * (bst z k).D < (bst z k).N * (z (k + 1)).D then z (k + 1) else bst z k
/-- the points are within 200 -/
def Near (L : List Pt) : Prop := ∀ p ∈ L, -200 ≤ p.1 ∧ p.1 ≤ 200 ∧ -200 ≤ p.2 ∧ p.2 ≤ 200
theorem mulB {x y a b : Int} (hx : -a ≤ x ∧ x ≤ a) (hy : -b ≤ y ∧ y ≤ b) (ha : 0 ≤ a) (hb : 0 ≤ b) : -(a * b) ≤ x * y ∧ x * y ≤ a * b := by
  have h1 : 0 ≤ (a - x) * (b + y) := Int.mul_nonneg (by omega) (by omega)
  have h2 : 0 ≤ (a + x) * (b - y) := Int.mul_nonneg (by omega) (by omega)
  have h3 : 0 ≤ (a - x) * (b - y) := Int.mul_nonneg (by omega) (by omega)
  have h4 : 0 ≤ (a + x) * (b + y) := Int.mul_nonneg (by omega) (by omega)
  have e1 : (a - x) * (b + y) = a * b + a * y - x * b - x * y := by rw [Int.sub_mul, Int.mul_add, Int.mul_add]; omega
  have e2 : (a + x) * (b - y) = a * b - a * y + x * b - x * y := by rw [Int.add_mul, Int.mul_sub, Int.mul_sub]; omega
  have e3 : (a - x) * (b - y) = a * b - a * y - x * b + x * y := by rw [Int.sub_mul, Int.mul_sub, Int.mul_sub]; omega
  have e4 : (a + x) * (b + y) = a * b + a * y + x * b + x * y := by rw [Int.add_mul, Int.mul_add, Int.mul_add]; omega
  omega
theorem side_bd {a b c : Pt} (ha : -200 ≤ a.1 ∧ a.1 ≤ 200 ∧ -200 ≤ a.2 ∧ a.2 ≤ 200) (hb : -200 ≤ b.1 ∧ b.1 ≤ 200 ∧ -200 ≤ b.2 ∧ b.2 ≤ 200) (hc : -200 ≤ c.1 ∧ c.1 ≤ 200 ∧ -200 ≤ c.2 ∧ c.2 ≤ 200) : -320000 ≤ side a b c ∧ side a b c ≤ 320000 := by
  unfold side
  have h1 := mulB (x := b.1 - a.1) (y := c.2 - a.2) (a := 400) (b := 400) (by omega) (by omega) (by omega) (by omega)
  have h2 := mulB (x := b.2 - a.2) (y := c.1 - a.1) (a := 400) (b := 400) (by omega) (by omega) (by omega) (by omega)
  omega
theorem sqd_bd {a b : Pt} (ha : -200 ≤ a.1 ∧ a.1 ≤ 200 ∧ -200 ≤ a.2 ∧ a.2 ≤ 200) (hb : -200 ≤ b.1 ∧ b.1 ≤ 200 ∧ -200 ≤ b.2 ∧ b.2 ≤ 200) : 0 ≤ sqd a b ∧ sqd a b ≤ 320000 := by
  unfold sqd
  have h1 := mulB (x := a.1 - b.1) (y := a.1 - b.1) (a := 400) (b := 400) (by omega) (by omega) (by omega) (by omega)
  have h2 := mulB (x := a.2 - b.2) (y := a.2 - b.2) (a := 400) (b := 400) (by omega) (by omega) (by omega) (by omega)
  have h3 : 0 ≤ (a.1 - b.1) * (a.1 - b.1) := by
    rcases Int.le_total 0 (a.1 - b.1) with h | h
    · exact Int.mul_nonneg h h
    · exact Int.mul_nonneg_of_nonpos_of_nonpos h h
  have h4 : 0 ≤ (a.2 - b.2) * (a.2 - b.2) := by
    rcases Int.le_total 0 (a.2 - b.2) with h | h
    · exact Int.mul_nonneg h h
    · exact Int.mul_nonneg_of_nonpos_of_nonpos h h
  omega
structure ZoOk (z : Zo) : Prop where
  n : 0 ≤ z.N ∧ z.N ≤ 102400000000
  d : 0 ≤ z.D ∧ z.D ≤ 320000
theorem zn_ok {L : List Pt} {a b : Pt} (hL : Near L) (h1 : 1 ≤ L.length) (ha : a ∈ L) (hb : b ∈ L) : ZoOk (zn L a b) := by
  have hc : ptAt L (frM (fun k => side a b (ptAt L k)) L.length) ∈ L := List.mem_of_getElem? (ptAt_some (frM_lt _ h1 _ (Nat.le_refl _)))
  have hs := side_bd (hL a ha) (hL b hb) (hL _ hc)
  have hd := sqd_bd (hL a ha) (hL b hb)
  refine ⟨?_, hd⟩
  show 0 ≤ side a b _ * side a b _ ∧ side a b _ * side a b _ ≤ 102400000000
  generalize side a b (ptAt L (frM (fun k => side a b (ptAt L k)) L.length)) = s at *
  have h2 := mulB (x := s) (y := s) (a := 320000) (b := 320000) (by omega) (by omega) (by omega) (by omega)
  have h3 : 0 ≤ s * s := by
    rcases Int.le_total 0 s with h | h
    · exact Int.mul_nonneg h h
    · exact Int.mul_nonneg_of_nonpos_of_nonpos h h
  omega
theorem bst_ok {z : Nat → Zo} : ∀ k, (∀ i, i ≤ k → ZoOk (z i)) → ZoOk (bst z k)
  | 0, h => h 0 (Nat.le_refl _)
  | k + 1, h => by
    rw [bst]
    split
    · exact h (k + 1) (Nat.le_refl _)
    · exact bst_ok k (fun i hi => h i (by omega))
end Go.Proofs.Ytdcecfgmfmpeeaa
