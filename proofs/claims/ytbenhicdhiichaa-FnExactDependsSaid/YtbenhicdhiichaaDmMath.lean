/-
  The model's names of what hangs on a feature.
-/
import Derived.Test.YtbenhicdhiichaaDpP
namespace Go.Proofs.Ytbenhicdhiichaa
open Go.ChangeShapes Go.WideShapes Go.ChangeAt Go.RowKit Go.Maps Go.WideMaps
set_option linter.unusedVariables false
set_option linter.unusedSimpArgs false

theorem wo_full {nm : List (List Nat)} (h : (ord nm).length = nm.length) : ∀ i, i ≤ nm.length → (wo nm i).length = i := by
  intro i
  induction i with
  | zero => intro _; rfl
  | succ i ih =>
    intro hi
    have h1 := ih (by omega)
    obtain ⟨k, hk⟩ := wo_next h (by omega) h1
    rw [wo_some hk]
    simp [h1]
theorem wo_more (nm : List (List Nat)) (i d : Nat) : ∃ T, wo nm (i + d) = wo nm i ++ T := by
  induction d with
  | zero => exact ⟨[], by simp⟩
  | succ d ih =>
    obtain ⟨T, hT⟩ := ih
    rw [← Nat.add_assoc]
    cases h : ff nm (wo nm (i + d)) with
    | none => rw [wo_none h _ (Nat.le_succ _)]; exact ⟨T, hT⟩
    | some k => rw [wo_some h, hT]; exact ⟨T ++ [k], by simp⟩
theorem ord_take {nm : List (List Nat)} (h : (ord nm).length = nm.length) {i : Nat} (hi : i ≤ nm.length) : (ord nm).take i = wo nm i := by
  obtain ⟨T, hT⟩ := wo_more nm i (nm.length - i)
  rw [show i + (nm.length - i) = nm.length by omega] at hT
  unfold ord
  rw [hT, List.take_append_of_le_length (by rw [wo_full h i hi]; exact Nat.le_refl _), List.take_of_length_le (by rw [wo_full h i hi]; exact Nat.le_refl _)]
theorem ord_at {nm : List (List Nat)} (h : (ord nm).length = nm.length) {i k : Nat} (hi : i < nm.length) (hk : ff nm (wo nm i) = some k) : (ord nm)[i]? = some k := by
  have h1 := ord_take h (i := i + 1) hi
  rw [wo_some hk] at h1
  have h2 : ((ord nm).take (i + 1))[i]? = some k := by
    rw [h1, List.getElem?_append_right (by rw [wo_full h i (by omega)]; exact Nat.le_refl _), wo_full h i (by omega), Nat.sub_self]
    rfl
  rw [List.getElem?_take, if_pos (by omega)] at h2
  exact h2
theorem name_at {fs : List Ft} (ht : twi fs = none) {s : ByteArray} {q k : Nat} {f : Ft} (hq : findN fs s = some q) (hk : fs[k]? = some f) : sEq f.nm s = (k == q) := by
  obtain ⟨g, hg, hgs⟩ := findN_at hq
  by_cases e : k = q
  · subst e
    rw [hk] at hg
    cases hg
    rw [hgs, sEq_refl]
    simp
  · have : (k == q) = false := by simpa using e
    rw [this]
    apply sEq_ne
    intro es
    rcases Nat.lt_or_ge q k with h1 | h1
    · have h2 := twi_none' ht k f hk
      unfold findN at h2
      rw [List.findIdx?_eq_none_iff] at h2
      have h3 := h2 g (List.mem_of_getElem? (i := q) (by rw [List.getElem?_take, if_pos h1]; exact hg))
      rw [hgs, es, sEq_refl] at h3
      cases h3
    · have h2 := twi_none' ht q g hg
      unfold findN at h2
      rw [List.findIdx?_eq_none_iff] at h2
      have h3 := h2 f (List.mem_of_getElem? (i := k) (by rw [List.getElem?_take, if_pos (by omega)]; exact hk))
      rw [hgs, es, sEq_refl] at h3
      cases h3
/-- the seed alone -/
def m1 (M : List Nat) (b : Bool) (k : Nat) : List Nat := if b then M ++ [k] else M
theorem m1_set {n : Nat} {M : List Nat} {b : Bool} {k : Nat} (h : k < n) (hm : M.contains k = false) : (bl n M).set k (.bool b) = bl n (m1 M b k) := by
  unfold m1
  cases b
  · have := bl_same (o := M) h
    rw [hm] at this
    exact this
  · exact bl_set h
theorem m1_has {M : List Nat} {b : Bool} {k : Nat} (hm : M.contains k = false) : (m1 M b k).contains k = b := by
  unfold m1
  cases b
  · exact hm
  · rw [if_pos rfl, contains_snoc]; simp
theorem m1_other {M : List Nat} {b : Bool} {k y : Nat} (h : y ≠ k) : (m1 M b k).contains y = M.contains y := by
  unfold m1
  cases b
  · rfl
  · rw [if_pos rfl, contains_snoc]; simp [h]
theorem mgo_bl {n : Nat} {nm : List (List Nat)} {sd : Nat → Bool} {M : List Nat} {k y : Nat} (hm : M.contains k = false) (hy : y ≠ k) (hn : nm.getD k [] = [y]) : bl n (lup (m1 M (sd k) k) k [y]) = bl n (mgo nm sd M k) := by
  apply bl_ext
  intro i _
  unfold lup mgo
  rw [hn, m1_has hm]
  simp only [List.any_cons, List.any_nil, Bool.or_false]
  rw [m1_other hy]
  cases hs : sd k <;> cases hM : M.contains y <;> simp [m1]
theorem mgo_nil {nm : List (List Nat)} {sd : Nat → Bool} {M : List Nat} {k : Nat} (hn : nm.getD k [] = []) : m1 M (sd k) k = mgo nm sd M k := by
  unfold m1 mgo
  rw [hn]
  simp
end Go.Proofs.Ytbenhicdhiichaa
