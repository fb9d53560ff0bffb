/-
  The told holes by their numbers: those that stay alone, and again and again those whose shaft fits to a told one.
-/
import Derived.Test.YtmoobfbjehgdnaaBkMath
namespace Go.Proofs.Ytmoobfbjehgdnaa
set_option linter.unusedVariables false
set_option linter.unusedSimpArgs false

theorem pairs_iff {H S : List Int} {lo hi : Int} {A B : List Int} : ∀ i, i ≤ A.length → ∀ a b, ((a, b) ∈ (pgo H S lo hi (A.take i) B).ps ↔ ∃ j, j < i ∧ A[j]? = some a ∧ mateAt H S lo hi A B j = some b) ∧ (a ∈ (pgo H S lo hi (A.take i) B).al ↔ ∃ j, j < i ∧ A[j]? = some a ∧ mateAt H S lo hi A B j = none) := by
  intro i
  induction i with
  | zero =>
    intro _ a b
    constructor
    · constructor
      · intro h; simp [pgo, pst0] at h
      · rintro ⟨j, hj, _⟩; omega
    · constructor
      · intro h; simp [pgo, pst0] at h
      · rintro ⟨j, hj, _⟩; omega
  | succ i ih =>
    intro hi' a b
    obtain ⟨x, hx⟩ : ∃ x, A[i]? = some x := ⟨_, List.getElem?_eq_getElem (by omega)⟩
    have hm : mateAt H S lo hi A B i = B.find? (fun b => okP H S lo hi (pgo H S lo hi (A.take i) B).used x b) := by unfold mateAt; rw [hx]
    obtain ⟨h1, h2⟩ := ih (by omega) a b
    rw [pgo_succ hx]
    unfold pstep
    cases hf : B.find? (fun b => okP H S lo hi (pgo H S lo hi (A.take i) B).used x b) with
    | none =>
      simp only [List.mem_append, List.mem_singleton]
      rw [h1, h2]
      constructor
      · constructor
        · rintro ⟨j, hj, e1, e2⟩; exact ⟨j, by omega, e1, e2⟩
        · rintro ⟨j, hj, e1, e2⟩
          by_cases ej : j = i
          · rw [ej, hm, hf] at e2; cases e2
          · exact ⟨j, by omega, e1, e2⟩
      · constructor
        · rintro (⟨j, hj, e1, e2⟩ | e)
          · exact ⟨j, by omega, e1, e2⟩
          · exact ⟨i, by omega, by rw [e]; exact hx, by rw [hm, hf]⟩
        · rintro ⟨j, hj, e1, e2⟩
          by_cases ej : j = i
          · rw [ej, hx] at e1; exact .inr (Option.some.inj e1).symm
          · exact .inl ⟨j, by omega, e1, e2⟩
    | some c =>
      simp only [List.mem_append, List.mem_singleton, Prod.mk.injEq]
      rw [h1, h2]
      constructor
      · constructor
        · rintro (⟨j, hj, e1, e2⟩ | ⟨e, e'⟩)
          · exact ⟨j, by omega, e1, e2⟩
          · exact ⟨i, by omega, by rw [e]; exact hx, by rw [hm, hf, e']⟩
        · rintro ⟨j, hj, e1, e2⟩
          by_cases ej : j = i
          · rw [ej] at e1 e2
            rw [hx] at e1
            rw [hm, hf] at e2
            exact .inr ⟨(Option.some.inj e1).symm, (Option.some.inj e2).symm⟩
          · exact .inl ⟨j, by omega, e1, e2⟩
      · constructor
        · rintro ⟨j, hj, e1, e2⟩; exact ⟨j, by omega, e1, e2⟩
        · rintro ⟨j, hj, e1, e2⟩
          by_cases ej : j = i
          · rw [ej, hm, hf] at e2; cases e2
          · exact ⟨j, by omega, e1, e2⟩

/-- the pairs and the lone holes of right lists -/
def fin (H S : List Int) (lo hi : Int) : PS := pgo H S lo hi (ordL H H.length) (ordL S S.length)
/-- the told holes -/
inductive TH (H S : List Int) (lo hi : Int) : Int → Prop
  | alone {a : Int} (h : a ∈ (fin H S lo hi).al) : TH H S lo hi a
  | step {a a' b : Int} (h : TH H S lo hi a') (hb : 0 ≤ b ∧ b < (S.length : Int)) (hf : fitB H S lo hi a' b = true) (hp : (a, b) ∈ (fin H S lo hi).ps) : TH H S lo hi a
section
variable {H S : List Int} {lo hi : Int}
theorem fin_iff (a b : Int) : ((a, b) ∈ (fin H S lo hi).ps ↔ ∃ j, j < H.length ∧ (ordL H H.length)[j]? = some a ∧ mateAt H S lo hi (ordL H H.length) (ordL S S.length) j = some b) ∧ (a ∈ (fin H S lo hi).al ↔ ∃ j, j < H.length ∧ (ordL H H.length)[j]? = some a ∧ mateAt H S lo hi (ordL H H.length) (ordL S S.length) j = none) := by
  have h := pairs_iff (H := H) (S := S) (lo := lo) (hi := hi) (A := ordL H H.length) (B := ordL S S.length) H.length (by rw [ordL_len]; exact Nat.le_refl _) a b
  rw [List.take_of_length_le (by rw [ordL_len]; exact Nat.le_refl _)] at h
  exact h
theorem ord_inj {L : List Int} {i j : Nat} {x : Int} (hi : (ordL L L.length)[i]? = some x) (hj : (ordL L L.length)[j]? = some x) : i = j := by
  have hs := (ordL_spec L L.length).1
  obtain ⟨hi1, hi2⟩ := List.getElem?_eq_some_iff.1 hi
  obtain ⟨hj1, hj2⟩ := List.getElem?_eq_some_iff.1 hj
  rcases Nat.lt_trichotomy i j with h | h | h
  · have := List.pairwise_iff_getElem.1 hs i j hi1 hj1 h
    rw [hi2, hj2] at this
    exact absurd this (ltR_irrefl _ _)
  · exact h
  · have := List.pairwise_iff_getElem.1 hs j i hj1 hi1 h
    rw [hi2, hj2] at this
    exact absurd this (ltR_irrefl _ _)
theorem pair_hole {a b b' : Int} (h : (a, b) ∈ (fin H S lo hi).ps) (h' : (a, b') ∈ (fin H S lo hi).ps) : b = b' := by
  obtain ⟨j, hj, e1, e2⟩ := (fin_iff a b).1.1 h
  obtain ⟨k, hk, f1, f2⟩ := (fin_iff a b').1.1 h'
  have := ord_inj e1 f1
  subst this
  rw [e2] at f2
  exact Option.some.inj f2
theorem pair_shaft {a a' b : Int} (h : (a, b) ∈ (fin H S lo hi).ps) (h' : (a', b) ∈ (fin H S lo hi).ps) : a = a' := by
  obtain ⟨j, hj, e1, e2⟩ := (fin_iff a b).1.1 h
  obtain ⟨k, hk, f1, f2⟩ := (fin_iff a' b).1.1 h'
  have := (greedy (H := H) (S := S) (lo := lo) (hi := hi) (ordL_all H) (ordL_all S)).inj j k b hj hk e2 f2
  subst this
  rw [e1] at f1
  exact Option.some.inj f1
theorem lone_pair {a b : Int} (h : a ∈ (fin H S lo hi).al) (h' : (a, b) ∈ (fin H S lo hi).ps) : False := by
  obtain ⟨j, hj, e1, e2⟩ := (fin_iff a b).2.1 h
  obtain ⟨k, hk, f1, f2⟩ := (fin_iff a b).1.1 h'
  have := ord_inj e1 f1
  subst this
  rw [e2] at f2
  cases f2
theorem pair_fits {a b : Int} (h : (a, b) ∈ (fin H S lo hi).ps) : 0 ≤ a ∧ a < (H.length : Int) ∧ 0 ≤ b ∧ b < (S.length : Int) ∧ fitB H S lo hi a b = true := by
  obtain ⟨j, hj, e1, e2⟩ := (fin_iff a b).1.1 h
  obtain ⟨h0, h1, a', ha', hf⟩ := (greedy (H := H) (S := S) (lo := lo) (hi := hi) (ordL_all H) (ordL_all S)).fits j b hj e2
  rw [e1] at ha'
  cases ha'
  have := (ordL_all H).mem.1 (List.mem_of_getElem? e1)
  exact ⟨this.1, this.2, h0, h1, hf⟩
theorem lone_in {a : Int} (h : a ∈ (fin H S lo hi).al) : 0 ≤ a ∧ a < (H.length : Int) := by
  obtain ⟨j, hj, e1, e2⟩ := (fin_iff a 0).2.1 h
  exact (ordL_all H).mem.1 (List.mem_of_getElem? e1)
theorem TH.in {a : Int} (h : TH H S lo hi a) : 0 ≤ a ∧ a < (H.length : Int) := by
  cases h with
  | alone h => exact lone_in h
  | step _ _ _ hp => exact ⟨(pair_fits hp).1, (pair_fits hp).2.1⟩
/-- every hole is alone or in a pair -/
theorem hole_case {a : Int} (h : 0 ≤ a ∧ a < (H.length : Int)) : a ∈ (fin H S lo hi).al ∨ ∃ b, (a, b) ∈ (fin H S lo hi).ps := by
  obtain ⟨j, hj⟩ := List.getElem?_of_mem ((ordL_all H).mem.2 h)
  have hjl : j < H.length := by have := (List.getElem?_eq_some_iff.1 hj).1; rw [ordL_len] at this; exact this
  cases hm : mateAt H S lo hi (ordL H H.length) (ordL S S.length) j with
  | none => exact .inl ((fin_iff a 0).2.2 ⟨j, hjl, hj, hm⟩)
  | some b => exact .inr ⟨b, (fin_iff a b).1.2 ⟨j, hjl, hj, hm⟩⟩
/-- by places -/
theorem TH.told {a : Int} (h : TH H S lo hi a) : ∃ j, (ordL H H.length)[j]? = some a ∧ Told H.length (mateAt H S lo hi (ordL H H.length) (ordL S S.length)) (fun i b => 0 ≤ b ∧ b < (S.length : Int) ∧ ∃ a, (ordL H H.length)[i]? = some a ∧ fitB H S lo hi a b = true) j := by
  induction h with
  | alone h =>
    obtain ⟨j, hj, e1, e2⟩ := (fin_iff _ 0).2.1 h
    exact ⟨j, e1, .alone hj e2⟩
  | step h hb hf hp ih =>
    obtain ⟨k, e1, hk⟩ := ih
    obtain ⟨j, hj, f1, f2⟩ := (fin_iff _ _).1.1 hp
    exact ⟨j, f1, .step hj hk ⟨hb.1, hb.2, _, e1, hf⟩ f2⟩
/-- a shaft that fits to a told hole is in a pair -/
theorem TH.paired {a b : Int} (h : TH H S lo hi a) (hb : 0 ≤ b ∧ b < (S.length : Int)) (hf : fitB H S lo hi a b = true) : ∃ a', (a', b) ∈ (fin H S lo hi).ps ∧ TH H S lo hi a' := by
  obtain ⟨j, e1, hj⟩ := h.told
  obtain ⟨k, hk, hm⟩ := hj.paired (greedy (H := H) (S := S) (lo := lo) (hi := hi) (ordL_all H) (ordL_all S)) (t := b) ⟨hb.1, hb.2, a, e1, hf⟩
  obtain ⟨a', ha'⟩ : ∃ a', (ordL H H.length)[k]? = some a' := ⟨_, List.getElem?_eq_getElem (by rw [ordL_len]; exact hk)⟩
  have hp := (fin_iff a' b).1.2 ⟨k, hk, ha', hm⟩
  exact ⟨a', hp, .step h hb hf hp⟩
/-- the told shafts -/
def TS (H S : List Int) (lo hi : Int) (b : Int) : Prop := (0 ≤ b ∧ b < (S.length : Int)) ∧ ∃ a, TH H S lo hi a ∧ fitB H S lo hi a b = true
/-- what is closed and has the lone holes has all told holes -/
theorem TH.least {P : Int → Prop} (h0 : ∀ a ∈ (fin H S lo hi).al, P a) (h1 : ∀ a a' b, P a' → (0 ≤ b ∧ b < (S.length : Int)) → fitB H S lo hi a' b = true → (a, b) ∈ (fin H S lo hi).ps → P a) {a : Int} (h : TH H S lo hi a) : P a := by
  induction h with
  | alone h => exact h0 _ h
  | step h hb hf hp ih => exact h1 _ _ _ ih hb hf hp
end
end Go.Proofs.Ytmoobfbjehgdnaa
