/-
  What the model looks at in the slots ahead, and what stands behind it.
-/
import Derived.Test.YtbgekppggakdoaaHlI
namespace Go.Proofs.Ytbgekppggakdoaa
set_option linter.unusedVariables false
set_option linter.unusedSimpArgs false

/-- whether the step ahead has ended, by the slots so far -/
def ahd (x : Slt) (P : List Slt) : Bool := P.foldl (fun b y => if y.jb = x.jb ∧ y.st = x.st - 1 then decide (y.ti ≤ x.fr) else b) (decide (x.st = 0))
theorem ahd_nil (x : Slt) : ahd x [] = decide (x.st = 0) := rfl
theorem ahd_take {x : Slt} {P : List Slt} {k : Nat} {y : Slt} (h : P[k]? = some y) : ahd x (P.take (k + 1)) = if y.jb = x.jb ∧ y.st = x.st - 1 then decide (y.ti ≤ x.fr) else ahd x (P.take k) := by
  unfold ahd; rw [List.take_add_one, h]; simp
theorem fold_no (x : Slt) : ∀ (P : List Slt) (b : Bool), (∀ y ∈ P, ¬ (y.jb = x.jb ∧ y.st = x.st - 1)) → P.foldl (fun b y => if y.jb = x.jb ∧ y.st = x.st - 1 then decide (y.ti ≤ x.fr) else b) b = b
  | [], b, _ => rfl
  | y :: P, b, h => by
    rw [List.foldl_cons, if_neg (h y (by simp))]
    exact fold_no x P b (fun z hz => h z (by simp [hz]))
theorem fold_all (x : Slt) (t : Int) : ∀ (P : List Slt) (b : Bool), (∀ y ∈ P, y.jb = x.jb ∧ y.st = x.st - 1 → y.ti = t) → (b = decide (t ≤ x.fr) ∨ ∃ y ∈ P, y.jb = x.jb ∧ y.st = x.st - 1) → P.foldl (fun b y => if y.jb = x.jb ∧ y.st = x.st - 1 then decide (y.ti ≤ x.fr) else b) b = decide (t ≤ x.fr)
  | [], b, _, h => by
    rcases h with h | ⟨y, hy, _⟩
    · exact h
    · cases hy
  | y :: P, b, h, hx => by
    rw [List.foldl_cons]
    by_cases e : y.jb = x.jb ∧ y.st = x.st - 1
    · rw [if_pos e, h y (by simp) e]
      exact fold_all x t P _ (fun z hz => h z (by simp [hz])) (.inl rfl)
    · rw [if_neg e]
      refine fold_all x t P b (fun z hz => h z (by simp [hz])) ?_
      rcases hx with h1 | ⟨z, hz, hz2⟩
      · exact .inl h1
      · rcases List.mem_cons.1 hz with e2 | e2
        · subst e2; exact absurd hz2 e
        · exact .inr ⟨z, e2, hz2⟩
theorem seen_iff {N S L : Int} {J : List Jb} {P : List Slt} {h : Hl} (H : Hv N S L J P h) {x : Slt} (h0 : 0 ≤ x.jb ∧ x.jb < J.length) (h1 : 0 ≤ x.st) : (∃ y ∈ P, y.jb = x.jb ∧ y.st = x.st) ↔ x.st < ((gAt h x.jb).1 : Int) := by
  have hg : h.pg[x.jb.toNat]? = some (gAt h x.jb) := by
    unfold gAt
    rw [List.getD_eq_getElem?_getD, List.getElem?_eq_getElem (by rw [H.gl]; omega)]
    rfl
  constructor
  · rintro ⟨y, hy, e1, e2⟩
    have := H.sn y hy
    rw [e1, e2] at this
    exact this.2
  · intro hlt
    obtain ⟨y, hy, e1, e2⟩ := H.all _ _ hg x.st.toNat (by omega)
    exact ⟨y, hy, by omega, by omega⟩
theorem ahd_iff {N S L : Int} {J : List Jb} {P : List Slt} {h : Hl} (H : Hv N S L J P h) {x : Slt} {j : Jb} (hj : J[x.jb.toNat]? = some j) (h0 : 0 ≤ x.jb) (h1 : 0 ≤ x.st) (h2 : ((gAt h x.jb).1 : Int) ≤ x.st) (h3 : 0 ≤ x.fr) :
    ahd x P = (decide (((gAt h x.jb).1 : Int) = x.st) && decide ((gAt h x.jb).2 ≤ x.fr)) := by
  have hjl : x.jb.toNat < J.length := (List.getElem?_eq_some_iff.1 hj).1
  have hg : h.pg[x.jb.toNat]? = some (gAt h x.jb) := by
    unfold gAt
    rw [List.getD_eq_getElem?_getD, List.getElem?_eq_getElem (by rw [H.gl]; omega)]
    rfl
  by_cases e0 : x.st = 0
  · have hg0 : (gAt h x.jb).1 = 0 := by omega
    have hen := (H.pgk _ _ _ hg hj).2.2.2 hg0
    unfold ahd
    rw [fold_no x P _ (by intro y hy hh; have := H.sn y hy; omega), e0, hg0, hen]
    simp [h3]
  · by_cases e1 : ((gAt h x.jb).1 : Int) = x.st
    · unfold ahd
      rw [fold_all x (gAt h x.jb).2 P _ (by
        intro y hy hh
        have := H.lst y hy (by rw [hh.1]; omega)
        rw [hh.1] at this
        exact this) (.inr (by
        obtain ⟨y, hy, q1, q2⟩ := H.all _ _ hg (x.st.toNat - 1) (by omega)
        exact ⟨y, hy, by omega, by omega⟩)), decide_eq_true e1]
      rfl
    · unfold ahd
      rw [fold_no x P _ (by
        intro y hy hh
        have := H.sn y hy
        rw [hh.1, hh.2] at this
        omega), decide_eq_false e0, decide_eq_false e1]
      rfl
/-- all steps together -/
def steps (J : List Jb) : Nat := (J.map fun j => j.st.length).sum
theorem steps_take {J : List Jb} {k : Nat} {j : Jb} (h : J[k]? = some j) : steps (J.take (k + 1)) = steps (J.take k) + j.st.length := by
  unfold steps; rw [List.take_add_one, h]; simp
theorem any_sum : ∀ (J : List Jb) (G : List (Nat × Int)), G.length = J.length → (∀ (q : Nat) (g : Nat × Int) (j : Jb), G[q]? = some g → J[q]? = some j → g.1 ≤ j.st.length) → ((∃ (q : Nat) (g : Nat × Int) (j : Jb), G[q]? = some g ∧ J[q]? = some j ∧ g.1 < j.st.length) ↔ dones G < steps J) ∧ dones G ≤ steps J
  | [], G, hl, _ => by
    have : G = [] := List.eq_nil_of_length_eq_zero (by simpa using hl)
    subst this
    exact ⟨⟨fun ⟨q, g, j, h, _⟩ => by simp at h, fun h => by simp [dones, steps] at h⟩, by simp [dones, steps]⟩
  | j :: J, [], hl, _ => by simp at hl
  | j :: J, g :: G, hl, hk => by
    obtain ⟨ih, ih2⟩ := any_sum J G (by simpa using hl) (fun q g' j' h1 h2 => hk (q + 1) g' j' (by simpa using h1) (by simpa using h2))
    have h0 := hk 0 g j rfl rfl
    have e1 : dones (g :: G) = g.1 + dones G := by simp [dones]
    have e2 : steps (j :: J) = j.st.length + steps J := by simp [steps]
    rw [e1, e2]
    refine ⟨⟨?_, ?_⟩, by omega⟩
    · rintro ⟨q, g', j', h1, h2, h3⟩
      cases q with
      | zero => simp at h1 h2; subst h1; subst h2; omega
      | succ q => have := ih.1 ⟨q, g', j', by simpa using h1, by simpa using h2, h3⟩; omega
    · intro hlt
      by_cases e : g.1 < j.st.length
      · exact ⟨0, g, j, rfl, rfl, e⟩
      · obtain ⟨q, g', j', h1, h2, h3⟩ := ih.2 (by omega)
        exact ⟨q + 1, g', j', by simpa using h1, by simpa using h2, h3⟩
theorem anyL_iff {N S L : Int} {J : List Jb} {P : List Slt} {h : Hl} (H : Hv N S L J P h) : anyL J h = decide (P.length < steps J) := by
  have hs := any_sum J h.pg H.gl (fun q g j h1 h2 => (H.pgk q g j h1 h2).1)
  rw [Bool.eq_iff_iff, decide_eq_true_eq, H.cnt, ← hs.1]
  unfold anyL
  rw [List.any_eq_true]
  constructor
  · rintro ⟨q, hq, hl⟩
    have hq := List.mem_range.1 hq
    have h1 : h.pg[q]? = some (h.pg[q]'(by rw [H.gl]; exact hq)) := List.getElem?_eq_getElem _
    have h2 : J[q]? = some J[q] := List.getElem?_eq_getElem hq
    unfold lft at hl
    rw [getD_some h1, h2] at hl
    exact ⟨q, _, _, h1, h2, by simpa using hl⟩
  · rintro ⟨q, g, j, h1, h2, h3⟩
    refine ⟨q, List.mem_range.2 (List.getElem?_eq_some_iff.1 h2).1, ?_⟩
    unfold lft
    rw [getD_some h1, h2]
    simpa using h3
end Go.Proofs.Ytbgekppggakdoaa
