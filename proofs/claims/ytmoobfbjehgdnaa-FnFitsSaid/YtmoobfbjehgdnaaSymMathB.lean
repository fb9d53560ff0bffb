/-
  Two sorted stretches merged: by halves, and where one of them is one element.
-/
import Derived.Test.YtmoobfbjehgdnaaStMathB
namespace Go.Proofs.Ytmoobfbjehgdnaa
set_option linter.unusedVariables false
set_option linter.unusedSimpArgs false

/-- the two halves of a merge, each sorted, one below the other -/
theorem sym_join {rem : Int → Int} {L1 L2 R1 R2 M1 M2 : List Int} (h1 : M1.Pairwise (ltR rem)) (p1 : M1.Perm (L1 ++ R1)) (h2 : M2.Pairwise (ltR rem)) (p2 : M2.Perm (L2 ++ R2))
    (hb : ∀ x ∈ L1 ++ R1, ∀ y ∈ L2 ++ R2, ltR rem x y) : (M1 ++ M2).Pairwise (ltR rem) ∧ (M1 ++ M2).Perm ((L1 ++ L2) ++ (R1 ++ R2)) := by
  refine ⟨List.pairwise_append.2 ⟨h1, h2, fun x hx y hy => hb x (p1.mem_iff.1 hx) y (p2.mem_iff.1 hy)⟩, ?_⟩
  refine (List.Perm.append p1 p2).trans ?_
  rw [List.append_assoc, List.append_assoc]
  refine List.Perm.append_left L1 ?_
  rw [← List.append_assoc, ← List.append_assoc]
  exact List.Perm.append_right R2 List.perm_append_comm
/-- where the halves part: what stands at the border says it for all -/
theorem sym_border {rem : Int → Int} {L1 L2 R1 R2 : List Int} (hL : (L1 ++ L2).Pairwise (ltR rem)) (hR : (R1 ++ R2).Pairwise (ltR rem))
    (h1 : ∀ x y, L1.getLast? = some x → R2.head? = some y → ltR rem x y) (h2 : ∀ x y, R1.getLast? = some x → L2.head? = some y → ltR rem x y) :
    ∀ x ∈ L1 ++ R1, ∀ y ∈ L2 ++ R2, ltR rem x y := by
  obtain ⟨l1, l2, l3⟩ := List.pairwise_append.1 hL
  obtain ⟨r1, r2, r3⟩ := List.pairwise_append.1 hR
  -- the last of a sorted row is the greatest, the first the least
  have last : ∀ {A : List Int} {x : Int}, A.Pairwise (ltR rem) → x ∈ A → ∃ z, A.getLast? = some z ∧ (x = z ∨ ltR rem x z) := by
    intro A x hA hx
    rcases List.eq_nil_or_concat A with h | ⟨B, z, h⟩
    · subst h; cases hx
    · subst h
      rw [List.concat_eq_append] at hA hx ⊢
      refine ⟨z, by simp, ?_⟩
      rcases List.mem_append.1 hx with h3 | h3
      · exact .inr ((List.pairwise_append.1 hA).2.2 x h3 z (by simp))
      · exact .inl (by simpa using h3)
  have first : ∀ {A : List Int} {x : Int}, A.Pairwise (ltR rem) → x ∈ A → ∃ z, A.head? = some z ∧ (x = z ∨ ltR rem z x) := by
    intro A x hA hx
    cases A with
    | nil => cases hx
    | cons z A =>
      refine ⟨z, rfl, ?_⟩
      rcases List.mem_cons.1 hx with h3 | h3
      · exact .inl h3
      · exact .inr ((List.pairwise_cons.1 hA).1 x h3)
  have cross : ∀ {A B : List Int} {x y : Int}, A.Pairwise (ltR rem) → B.Pairwise (ltR rem) → (∀ x y, A.getLast? = some x → B.head? = some y → ltR rem x y) → x ∈ A → y ∈ B → ltR rem x y := by
    intro A B x y hA hB h hx hy
    obtain ⟨z, hz, hxz⟩ := last hA hx
    obtain ⟨u, hu, hyu⟩ := first hB hy
    have hzu := h z u hz hu
    rcases hxz with e | e <;> rcases hyu with e' | e'
    · rw [e, e']; exact hzu
    · rw [e]; exact ltR_trans hzu e'
    · rw [e']; exact ltR_trans e hzu
    · exact ltR_trans e (ltR_trans hzu e')
  intro x hx y hy
  rcases List.mem_append.1 hx with h | h <;> rcases List.mem_append.1 hy with h' | h'
  · exact l3 x h y h'
  · exact cross l1 r2 h1 h h'
  · exact cross r1 l2 h2 h h'
  · exact r3 x h y h'
/-- one element ahead of a sorted row -/
theorem one_left {rem : Int → Int} {x : Int} {R1 R2 : List Int} (hR : (R1 ++ R2).Pairwise (ltR rem)) (h1 : ∀ y ∈ R1, ltR rem y x) (h2 : ∀ y ∈ R2, ltR rem x y) :
    (R1 ++ (x :: R2)).Pairwise (ltR rem) ∧ (R1 ++ (x :: R2)).Perm ([x] ++ (R1 ++ R2)) := by
  obtain ⟨r1, r2, r3⟩ := List.pairwise_append.1 hR
  refine ⟨List.pairwise_append.2 ⟨r1, List.pairwise_cons.2 ⟨h2, r2⟩, ?_⟩, List.perm_middle⟩
  intro a ha b hb
  rcases List.mem_cons.1 hb with e | e
  · rw [e]; exact h1 a ha
  · exact r3 a ha b e
/-- one element behind a sorted row -/
theorem one_right {rem : Int → Int} {x : Int} {L1 L2 : List Int} (hL : (L1 ++ L2).Pairwise (ltR rem)) (h1 : ∀ y ∈ L1, ltR rem y x) (h2 : ∀ y ∈ L2, ltR rem x y) :
    (L1 ++ (x :: L2)).Pairwise (ltR rem) ∧ (L1 ++ (x :: L2)).Perm ((L1 ++ L2) ++ [x]) := by
  obtain ⟨g1, g2⟩ := one_left hL h1 h2
  exact ⟨g1, g2.trans List.perm_append_comm⟩
end Go.Proofs.Ytmoobfbjehgdnaa
