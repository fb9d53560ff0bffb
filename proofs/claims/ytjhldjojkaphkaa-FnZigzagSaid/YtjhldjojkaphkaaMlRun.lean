/-
  Milling in lists: what is taken at a place, along a move, by moves.
-/
import Derived.Test.YtjhldjojkaphkaaFlMath
namespace Go.Proofs.Ytjhldjojkaphkaa
set_option linter.unusedVariables false
set_option linter.unusedSimpArgs false

/-- a milling under way -/
structure Ml where
  T : List Int
  cut : Int
  air : Int
  dep : Int
/-- what is taken of a column -/
def take1 (z : Int) (s : Ml) (i : Nat) : Ml := if tp s.T i > z then ⟨s.T.set i z, s.cut + (tp s.T i - z), s.air, max s.dep (tp s.T i - z)⟩ else s
def takeC (z : Int) (s : Ml) (cs : List Nat) : Ml := cs.foldl (take1 z) s
theorem takeC_take (z : Int) (s : Ml) {cs : List Nat} {i c : Nat} (h : cs[i]? = some c) : takeC z s (cs.take (i + 1)) = take1 z (takeC z s (cs.take i)) c := by
  rw [List.take_add_one, h]
  simp [takeC]
theorem takeC_none (z : Int) (s : Ml) (cs : List Nat) (h : ∀ i ∈ cs, tp s.T i ≤ z) : takeC z s cs = s := by
  induction cs with
  | nil => rfl
  | cons c cs ih =>
    have h1 : take1 z s c = s := by unfold take1; rw [if_neg (by have := h c (by simp); omega)]
    show takeC z (take1 z s c) cs = s
    rw [h1]
    exact ih (fun i hi => h i (by simp [hi]))
/-- a place: its code, and what is left -/
def placeC (P : List Int) (cs : List Nat) (z : Int) (fast : Bool) (s : Ml) : Int × Ml :=
  if z < hi P cs then (16, s) else if z < hi s.T cs then (if fast then (17, s) else (0, takeC z s cs)) else (0, if fast then s else ⟨s.T, s.cut, s.air + 1, s.dep⟩)
/-- all numbers together -/
def sm : List Int → Int
  | [] => 0
  | a :: A => a + sm A
theorem sm_set : ∀ (T : List Int) (i : Nat) (z : Int), i < T.length → sm (T.set i z) = sm T - tp T i + z := by
  intro T
  induction T with
  | nil => intro i z h; simp at h
  | cons a T ih =>
    intro i z h
    cases i with
    | zero => simp [sm, tp]; omega
    | succ i =>
      have := ih i z (by simpa using h)
      have e : tp (a :: T) (i + 1) = tp T i := by simp [tp]
      rw [List.set_cons_succ, e]
      simp only [sm]
      omega
theorem sm_nn : ∀ (T : List Int), (∀ x ∈ T, 0 ≤ x ∧ x ≤ 24) → 0 ≤ sm T ∧ sm T ≤ 24 * T.length := by
  intro T
  induction T with
  | nil => intro _; simp [sm]
  | cons a T ih =>
    intro h
    have h1 := ih (fun x hx => h x (by simp [hx]))
    have h2 := h a (by simp)
    simp only [sm, List.length_cons]
    omega
/-- numbers in bounds -/
structure MOk (n : Nat) (s : Ml) : Prop where
  len : s.T.length = n
  tops : ∀ i, 0 ≤ tp s.T i ∧ tp s.T i ≤ 24
  cut : 0 ≤ s.cut
  sum : s.cut + sm s.T ≤ 24 * n
  dep : 0 ≤ s.dep ∧ s.dep ≤ 24
theorem tops_mem {T : List Int} (h : ∀ i, 0 ≤ tp T i ∧ tp T i ≤ 24) : ∀ x ∈ T, 0 ≤ x ∧ x ≤ 24 := by
  intro x hx
  obtain ⟨i, hi, rfl⟩ := List.getElem_of_mem hx
  have := h i
  rwa [tp_of (List.getElem?_eq_getElem hi)] at this
theorem MOk.cut_le {n : Nat} {s : Ml} (h : MOk n s) : s.cut ≤ 24 * n := by
  have := (sm_nn s.T (tops_mem h.tops)).1
  have := h.sum
  omega
theorem take1_ok {n : Nat} {s : Ml} {z : Int} {i : Nat} (h : MOk n s) (hz : 0 ≤ z) (hi : i < n) : MOk n (take1 z s i) := by
  unfold take1
  by_cases ht : tp s.T i > z
  · rw [if_pos ht]
    have hl : i < s.T.length := by rw [h.len]; exact hi
    have hti := h.tops i
    refine ⟨by simp [h.len], fun j => ?_, ?_, ?_, ?_⟩
    · show 0 ≤ tp (s.T.set i z) j ∧ tp (s.T.set i z) j ≤ 24
      rw [tp_set hl]
      split
      · omega
      · exact h.tops j
    · show 0 ≤ s.cut + (tp s.T i - z)
      have := h.cut
      omega
    · show s.cut + (tp s.T i - z) + sm (s.T.set i z) ≤ 24 * n
      rw [sm_set _ _ _ hl]
      have := h.sum
      omega
    · show 0 ≤ max s.dep (tp s.T i - z) ∧ max s.dep (tp s.T i - z) ≤ 24
      have := h.dep
      omega
  · rw [if_neg ht]; exact h
theorem take1_air (z : Int) (s : Ml) (i : Nat) : (take1 z s i).air = s.air := by unfold take1; split <;> rfl
theorem takeC_ok {n : Nat} {z : Int} (hz : 0 ≤ z) : ∀ (cs : List Nat) (s : Ml), MOk n s → (∀ i ∈ cs, i < n) → MOk n (takeC z s cs) ∧ (takeC z s cs).air = s.air := by
  intro cs
  induction cs with
  | nil => intro s h _; exact ⟨h, rfl⟩
  | cons c cs ih =>
    intro s h hc
    have h1 := take1_ok (z := z) h hz (hc c (by simp))
    have h2 := ih (take1 z s c) h1 (fun i hi => hc i (by simp [hi]))
    exact ⟨h2.1, h2.2.trans (take1_air z s c)⟩
theorem placeC_ok {n : Nat} {P : List Int} {cs : List Nat} {z : Int} {f : Bool} {s : Ml} (h : MOk n s) (hz : 0 ≤ z) (hc : ∀ i ∈ cs, i < n) : MOk n (placeC P cs z f s).2 ∧ s.air ≤ (placeC P cs z f s).2.air ∧ (placeC P cs z f s).2.air ≤ s.air + 1 := by
  unfold placeC
  split
  · exact ⟨h, Int.le_refl _, by show s.air ≤ s.air + 1; omega⟩
  · split
    · split
      · exact ⟨h, Int.le_refl _, by show s.air ≤ s.air + 1; omega⟩
      · have := takeC_ok hz cs s h hc
        exact ⟨this.1, by rw [this.2]; omega, by rw [this.2]; omega⟩
    · split
      · exact ⟨h, Int.le_refl _, by show s.air ≤ s.air + 1; omega⟩
      · exact ⟨⟨h.len, h.tops, h.cut, h.sum, h.dep⟩, by show s.air ≤ s.air + 1; omega, by show s.air + 1 ≤ s.air + 1; omega⟩
end Go.Proofs.Ytjhldjojkaphkaa
