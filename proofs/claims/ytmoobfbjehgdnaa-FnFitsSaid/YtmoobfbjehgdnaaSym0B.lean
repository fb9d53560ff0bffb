/-
  symMerge's general case: by halves, if the halves are merged.
-/
import Derived.Test.YtmoobfbjehgdnaaSylB
import Derived.Test.YtmoobfbjehgdnaaSyrB
namespace Go.Proofs.Ytmoobfbjehgdnaa
open Go.ChangeShapes Go.WideShapes Go.ChangeAt Go.RowKit
set_option linter.unusedVariables false
set_option linter.unusedSimpArgs false

/-- what a merge of two stretches leaves -/
def Merged (rem : Int → Int) (D : Nat) (X T1 T2 Y : List Int) (w w' : World) : Prop := ∃ M : List Int, M.Pairwise (ltR rem) ∧ M.Perm (T1 ++ T2) ∧ iblk w' D 3 (X ++ (M ++ Y)) ∧ But D w w'
/-- two stretches that can be merged: sorted, each rank of the right one later -/
structure Two2 (rem : Int → Int) (ok : Int → Prop) (T1 T2 : List Int) : Prop where
  s1 : T1.Pairwise (ltR rem)
  s2 : T2.Pairwise (ltR rem)
  lt : ∀ x ∈ T1, ∀ y ∈ T2, x < y
  o1 : ∀ x ∈ T1, ok x
  o2 : ∀ x ∈ T2, ok x
theorem Two2.parts {rem : Int → Int} {ok : Int → Prop} {L1 L2 R1 R2 : List Int} (h : Two2 rem ok (L1 ++ L2) (R1 ++ R2)) : Two2 rem ok L1 R1 ∧ Two2 rem ok L2 R2 := by
  obtain ⟨a1, a2, _⟩ := List.pairwise_append.1 h.s1
  obtain ⟨b1, b2, _⟩ := List.pairwise_append.1 h.s2
  exact ⟨⟨a1, b1, fun x hx y hy => h.lt x (by simp [hx]) y (by simp [hy]), fun x hx => h.o1 x (by simp [hx]), fun x hx => h.o2 x (by simp [hx])⟩, ⟨a2, b2, fun x hx y hy => h.lt x (by simp [hx]) y (by simp [hy]), fun x hx => h.o1 x (by simp [hx]), fun x hx => h.o2 x (by simp [hx])⟩⟩
theorem row_left (X S T : List Int) (k : Nat) (y : Int) (h : S[k]? = some y) : (X ++ (S ++ T))[X.length + k]? = some y := by
  have hk : k < S.length := (List.getElem?_eq_some_iff.1 h).1
  rw [List.getElem?_append_right (by omega), show X.length + k - X.length = k by omega, List.getElem?_append_left hk]
  exact h
theorem row_right (X S T Y : List Int) (k : Nat) (y : Int) (h : T[k]? = some y) : (X ++ (S ++ (T ++ Y)))[X.length + S.length + k]? = some y := by
  have hk : k < T.length := (List.getElem?_eq_some_iff.1 h).1
  rw [List.getElem?_append_right (by omega), show X.length + S.length + k - X.length = S.length + k by omega, List.getElem?_append_right (by omega), show S.length + k - S.length = k by omega, List.getElem?_append_left hk]
  exact h
/-- where the search ends: the border of the two halves -/
def Border (rem : Int → Int) (S1 S2 : List Int) (l r : Nat) : Prop :=
  (∀ x y, (S1.take l).getLast? = some x → (S2.drop r).head? = some y → ltR rem x y) ∧ (∀ x y, (S2.take r).getLast? = some x → (S1.drop l).head? = some y → ltR rem x y)
theorem last_take {S : List Int} {l : Nat} {x : Int} (h : (S.take l).getLast? = some x) (hl : l ≤ S.length) : 0 < l ∧ S[l - 1]? = some x := by
  cases l with
  | zero => simp at h
  | succ l =>
    refine ⟨by omega, ?_⟩
    rw [List.take_add_one] at h
    obtain ⟨y, hy⟩ : ∃ y, S[l]? = some y := ⟨_, List.getElem?_eq_getElem (by omega)⟩
    rw [hy] at h
    simp at h
    rw [show l + 1 - 1 = l by omega, hy, h]
theorem head_drop {S : List Int} {l : Nat} {y : Int} (h : (S.drop l).head? = some y) : S[l]? = some y := by rwa [List.head?_drop] at h
theorem border_of {rem : Int → Int} {S1 S2 : List Int} {l r : Nat} (hl : l ≤ S1.length) (hr : r ≤ S2.length)
    (h1 : l = 0 ∨ r = S2.length ∨ ∀ x y, S1[l - 1]? = some x → S2[r]? = some y → ltR rem x y) (h2 : r = 0 ∨ l = S1.length ∨ ∀ x y, S2[r - 1]? = some x → S1[l]? = some y → ltR rem x y) : Border rem S1 S2 l r := by
  constructor
  · intro x y hx hy
    obtain ⟨g1, g2⟩ := last_take hx hl
    have g3 := head_drop hy
    rcases h1 with h | h | h
    · omega
    · rw [h, List.getElem?_eq_none (Nat.le_refl _)] at g3; cases g3
    · exact h x y g2 g3
  · intro x y hx hy
    obtain ⟨g1, g2⟩ := last_take hx hr
    have g3 := head_drop hy
    rcases h2 with h | h | h
    · omega
    · rw [h, List.getElem?_eq_none (Nat.le_refl _)] at g3; cases g3
    · exact h x y g2 g3
end Go.Proofs.Ytmoobfbjehgdnaa
