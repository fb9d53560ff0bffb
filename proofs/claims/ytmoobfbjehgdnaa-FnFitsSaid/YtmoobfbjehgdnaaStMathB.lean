/-
  Ranks by falling remainders, of alike ones the earlier first: what insertion makes of rising ranks.
-/
import Derived.Test.YtmoobfbjehgdnaaIsrB
import Derived.Test.YtmoobfbjehgdnaaCmpS
namespace Go.Proofs.Ytmoobfbjehgdnaa
set_option linter.unusedVariables false
set_option linter.unusedSimpArgs false

def ltR (rem : Int → Int) (x y : Int) : Prop := rem y < rem x ∨ (rem x = rem y ∧ x < y)
def cmR (rem : Int → Int) (x y : Int) : Int := cmpI (rem y) (rem x)
theorem cmR_neg (rem : Int → Int) (x y : Int) : cmR rem x y < 0 ↔ rem y < rem x := by
  unfold cmR cmpI
  split
  · rename_i h; exact ⟨fun _ => h, fun _ => by omega⟩
  · split
    · rename_i h1 h2; exact ⟨fun h => by omega, fun h => absurd h h1⟩
    · rename_i h1 h2; exact ⟨fun h => by omega, fun h => absurd h h1⟩
theorem ltR_trans {rem : Int → Int} {x y z : Int} (h1 : ltR rem x y) (h2 : ltR rem y z) : ltR rem x z := by
  unfold ltR at *
  omega
theorem ltR_irrefl (rem : Int → Int) (x : Int) : ¬ ltR rem x x := by unfold ltR; omega
theorem ltR_total {rem : Int → Int} {x y : Int} (h : x ≠ y) : ltR rem x y ∨ ltR rem y x := by unfold ltR; omega
/-- a later rank against an earlier one -/
theorem cmR_late {rem : Int → Int} {e t : Int} (h : t < e) : cmR rem e t < 0 ↔ ltR rem e t := by
  rw [cmR_neg]
  unfold ltR
  omega
theorem cmR_late' {rem : Int → Int} {e t : Int} (h : t < e) : ¬ cmR rem e t < 0 ↔ ltR rem t e := by
  rw [cmR_neg]
  unfold ltR
  omega
theorem insR_perm (cm : Int → Int → Int) (e : Int) (r : List Int) : (insR cm e r).Perm (e :: r) := by
  induction r with
  | nil => exact List.Perm.refl _
  | cons t r ih =>
    simp only [insR]
    split
    · exact (List.Perm.cons t ih).trans (List.Perm.swap e t r)
    · exact List.Perm.refl _
theorem insR_sorted {rem : Int → Int} {e : Int} {r : List Int} (hr : r.Pairwise (fun a b => ltR rem b a)) (he : ∀ t ∈ r, t < e) : (insR (cmR rem) e r).Pairwise (fun a b => ltR rem b a) := by
  induction r with
  | nil => exact List.pairwise_singleton _ _
  | cons t r ih =>
    have h1 := List.pairwise_cons.1 hr
    simp only [insR]
    split
    · rename_i hc
      have hlt := (cmR_late (rem := rem) (he t (by simp))).1 hc
      refine List.pairwise_cons.2 ⟨?_, ih h1.2 (fun x hx => he x (by simp [hx]))⟩
      intro b hb
      rcases List.mem_cons.1 ((insR_perm (cmR rem) e r).mem_iff.1 hb) with h2 | h2
      · rw [h2]; exact hlt
      · exact h1.1 b h2
    · rename_i hc
      have hlt := (cmR_late' (rem := rem) (he t (by simp))).1 hc
      refine List.pairwise_cons.2 ⟨?_, hr⟩
      intro b hb
      rcases List.mem_cons.1 hb with h2 | h2
      · rw [h2]; exact hlt
      · exact ltR_trans (h1.1 b h2) hlt
theorem srtR_spec {rem : Int → Int} : ∀ (xs r : List Int), r.Pairwise (fun a b => ltR rem b a) → xs.Pairwise (· < ·) → (∀ t ∈ r, ∀ x ∈ xs, t < x) → (srtR (cmR rem) r xs).Pairwise (fun a b => ltR rem b a) ∧ (srtR (cmR rem) r xs).Perm (xs ++ r) := by
  intro xs
  induction xs with
  | nil => intro r h1 _ _; exact ⟨h1, List.Perm.refl _⟩
  | cons x xs ih =>
    intro r h1 h2 h3
    have h4 := List.pairwise_cons.1 h2
    obtain ⟨g1, g2⟩ := ih (insR (cmR rem) x r) (insR_sorted h1 (fun t ht => h3 t ht x (by simp))) h4.2 (by
      intro t ht y hy
      rcases List.mem_cons.1 ((insR_perm (cmR rem) x r).mem_iff.1 ht) with h5 | h5
      · rw [h5]; exact h4.1 y hy
      · exact h3 t h5 y (by simp [hy]))
    refine ⟨g1, g2.trans ?_⟩
    refine (List.Perm.append_left xs (insR_perm (cmR rem) x r)).trans ?_
    exact List.perm_middle
/-- insertion sorts rising ranks -/
theorem srt_sorted {rem : Int → Int} (xs : List Int) (h : xs.Pairwise (· < ·)) : ((srtR (cmR rem) [] xs).reverse).Pairwise (ltR rem) ∧ ((srtR (cmR rem) [] xs).reverse).Perm xs := by
  obtain ⟨h1, h2⟩ := srtR_spec (rem := rem) xs [] List.Pairwise.nil h (by simp)
  rw [List.append_nil] at h2
  exact ⟨List.pairwise_reverse.2 h1, (List.reverse_perm _).trans h2⟩
/-- two sorted rows of the same elements are one -/
theorem sorted_unique {rem : Int → Int} : ∀ (a b : List Int), a.Pairwise (ltR rem) → b.Pairwise (ltR rem) → a.Perm b → a = b := by
  intro a
  induction a with
  | nil => intro b _ _ h; exact (List.nil_perm.1 h).symm
  | cons x a ih =>
    intro b ha hb h
    cases b with
    | nil => exact absurd (List.perm_nil.1 h) (by simp)
    | cons y b =>
      have ha' := List.pairwise_cons.1 ha
      have hb' := List.pairwise_cons.1 hb
      have hxy : x = y := by
        by_cases e : x = y
        · exact e
        · have hx : x ∈ y :: b := h.mem_iff.1 (by simp)
          have hy : y ∈ x :: a := h.mem_iff.2 (by simp)
          have h1 : x ∈ b := by rcases List.mem_cons.1 hx with h | h; exact absurd h e; exact h
          have h2 : y ∈ a := by rcases List.mem_cons.1 hy with h | h; exact absurd h.symm e; exact h
          exact absurd (ltR_trans (hb'.1 x h1) (ha'.1 y h2)) (ltR_irrefl rem y)
      subst hxy
      rw [ih b ha'.2 hb'.2 (List.Perm.cons_inv h)]
end Go.Proofs.Ytmoobfbjehgdnaa
