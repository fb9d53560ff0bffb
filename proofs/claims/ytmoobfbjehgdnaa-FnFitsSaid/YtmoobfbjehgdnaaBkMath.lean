/-
  Why there are no more pairs: of pairs that are made greedily, in the order of sizes, no shaft that fits to a told hole is in no pair.
-/
import Derived.Test.YtmoobfbjehgdnaaMtMath
namespace Go.Proofs.Ytmoobfbjehgdnaa
set_option linter.unusedVariables false
set_option linter.unusedSimpArgs false

section
variable (n : Nat) (M : Nat → Option Int) (fit : Nat → Int → Prop) (S : Int → Int)
/-- from this hole a way goes to a shaft that is in no pair -/
inductive Way : Nat → Prop
  | free {i : Nat} {t : Int} (hi : i < n) (hf : fit i t) (hn : ∀ j, j < n → M j ≠ some t) : Way i
  | later {i c : Nat} {t : Int} (hi : i < n) (hc : i < c) (hcn : c < n) (hw : Way c) (hm : M c = some t) (hf : fit i t) : Way i
/-- the told holes -/
inductive Told : Nat → Prop
  | alone {i : Nat} (hi : i < n) (hm : M i = none) : Told i
  | step {i j : Nat} {b : Int} (hi : i < n) (hj : Told j) (hf : fit j b) (hm : M i = some b) : Told i
/-- pairs that are made greedily -/
structure Greedy : Prop where
  fits : ∀ i b, i < n → M i = some b → fit i b
  inj : ∀ i j b, i < n → j < n → M i = some b → M j = some b → i = j
  least : ∀ i t, i < n → fit i t → (∀ j, j < i → M j ≠ some t) → ∃ b, M i = some b ∧ S b ≤ S t
  mono : ∀ i j t b, i ≤ j → j < n → fit i t → fit j b → S b ≤ S t → fit j t
variable {n M fit S}
theorem Way.lt {i : Nat} (h : Way n M fit i) : i < n := by cases h <;> assumption
theorem Told.lt {i : Nat} (h : Told n M fit i) : i < n := by cases h <;> assumption
theorem Way.pair (g : Greedy n M fit S) {i : Nat} (h : Way n M fit i) : ∃ b t, M i = some b ∧ S b ≤ S t ∧ fit i t ∧ ((∀ j, j < n → M j ≠ some t) ∨ ∃ c, i < c ∧ c < n ∧ Way n M fit c ∧ M c = some t) := by
  cases h with
  | free hi hf hn =>
    rename_i t
    obtain ⟨b, hb, hs⟩ := g.least i t hi hf (fun j hj => hn j (by omega))
    exact ⟨b, t, hb, hs, hf, .inl hn⟩
  | later hi hc hcn hw hm hf =>
    rename_i c t
    obtain ⟨b, hb, hs⟩ := g.least i t hi hf (fun j hj hm' => by have := g.inj j c t (by omega) hcn hm' hm; omega)
    exact ⟨b, t, hb, hs, hf, .inr ⟨c, hc, hcn, hw, hm⟩⟩
theorem Way.back (g : Greedy n M fit S) : ∀ (d : Nat) (i c : Nat) (b : Int), i - c ≤ d → i < n → Way n M fit c → M c = some b → fit i b → Way n M fit i := by
  intro d
  induction d with
  | zero =>
    intro i c b hd hi hw hm hf
    by_cases e : c = i
    · subst e; exact hw
    · exact .later hi (by omega) hw.lt hw hm hf
  | succ d ih =>
    intro i c b hd hi hw hm hf
    by_cases e : c = i
    · subst e; exact hw
    · by_cases h1 : i < c
      · exact .later hi h1 hw.lt hw hm hf
      · obtain ⟨b', t, hb', hs, hft, ht⟩ := hw.pair g
        rw [hm] at hb'
        cases hb'
        have hfi := g.mono c i t b (by omega) hi hft hf hs
        rcases ht with h2 | ⟨c2, h3, h4, h5, h6⟩
        · exact .free hi hfi h2
        · exact ih i c2 t (by omega) hi h5 h6 hfi
theorem Told.none (g : Greedy n M fit S) {i : Nat} (h : Told n M fit i) : ¬ Way n M fit i := by
  induction h with
  | alone hi hm =>
    intro hw
    obtain ⟨b, _, hb, _⟩ := hw.pair g
    rw [hm] at hb
    cases hb
  | step hi hj hf hm ih =>
    rename_i i j b
    intro hw
    exact ih (Way.back g (j - i) j i b (Nat.le_refl _) hj.lt hw hm hf)
/-- a shaft that fits to a told hole is in a pair -/
theorem Told.paired (g : Greedy n M fit S) {i : Nat} {t : Int} (h : Told n M fit i) (hf : fit i t) : ∃ j, j < n ∧ M j = some t := by
  by_cases hx : ∃ j, j < n ∧ M j = some t
  · exact hx
  · exact absurd (Way.free h.lt hf (fun j hj e => hx ⟨j, hj, e⟩)) (h.none g)
end

section
variable (H S : List Int) (lo hi : Int)
/-- the i-th hole's shaft -/
def mateAt (A B : List Int) (i : Nat) : Option Int := match A[i]? with | some a => B.find? (fun b => okP H S lo hi (pgo H S lo hi (A.take i) B).used a b) | none => none
theorem bt_set (u : List Bool) (i j : Nat) (x : Bool) (hi : i < u.length) : bt (u.set i x) j = if j = i then x else bt u j := by
  unfold bt
  rw [List.getD_eq_getElem?_getD, List.getD_eq_getElem?_getD, List.getElem?_set]
  by_cases h : i = j
  · subst h; rw [if_pos rfl, if_pos hi, if_pos rfl]; rfl
  · rw [if_neg h, if_neg (fun e => h e.symm)]
variable {H S lo hi}
theorem used_iff {A B : List Int} (hB : ∀ b ∈ B, 0 ≤ b ∧ b < (S.length : Int)) : ∀ i, i ≤ A.length → ∀ b : Nat, b < S.length → (bt (pgo H S lo hi (A.take i) B).used b = true ↔ ∃ j, j < i ∧ mateAt H S lo hi A B j = some (b : Int)) := by
  intro i
  induction i with
  | zero =>
    intro _ b hb
    constructor
    · intro h
      simp [pgo, pst0, bt, List.getD_eq_getElem?_getD, List.getElem?_replicate, hb] at h
    · rintro ⟨j, hj, _⟩; omega
  | succ i ih =>
    intro hi' b hb
    obtain ⟨a, ha⟩ : ∃ a, A[i]? = some a := ⟨_, List.getElem?_eq_getElem (by omega)⟩
    have hlen := (pgo_len H S lo hi (A.take i) B).1
    rw [pgo_succ ha]
    have hm : mateAt H S lo hi A B i = B.find? (fun b => okP H S lo hi (pgo H S lo hi (A.take i) B).used a b) := by unfold mateAt; rw [ha]
    unfold pstep
    cases hf : B.find? (fun b => okP H S lo hi (pgo H S lo hi (A.take i) B).used a b) with
    | none =>
      simp only
      rw [ih (by omega) b hb]
      constructor
      · rintro ⟨j, hj, e⟩; exact ⟨j, by omega, e⟩
      · rintro ⟨j, hj, e⟩
        by_cases ej : j = i
        · rw [ej, hm, hf] at e; cases e
        · exact ⟨j, by omega, e⟩
    | some c =>
      simp only
      have hc := hB c (List.mem_of_find?_eq_some hf)
      rw [bt_set _ _ _ _ (by omega)]
      by_cases eb : b = c.toNat
      · rw [if_pos eb]
        refine ⟨fun _ => ⟨i, by omega, ?_⟩, fun _ => rfl⟩
        rw [hm, hf]
        congr 1
        omega
      · rw [if_neg eb, ih (by omega) b hb]
        constructor
        · rintro ⟨j, hj, e⟩; exact ⟨j, by omega, e⟩
        · rintro ⟨j, hj, e⟩
          by_cases ej : j = i
          · rw [ej, hm, hf] at e
            have := Option.some.inj e
            omega
          · exact ⟨j, by omega, e⟩
theorem ord_pos {S M : List Int} (h : Ord S M) {i j : Nat} {x y : Int} (hx : M[i]? = some x) (hy : M[j]? = some y) (hij : i < j) : gt S x.toNat ≤ gt S y.toNat := by
  have hi := (List.getElem?_eq_some_iff.1 hx)
  have hj := (List.getElem?_eq_some_iff.1 hy)
  obtain ⟨hi1, hi2⟩ := hi
  obtain ⟨hj1, hj2⟩ := hj
  have := List.pairwise_iff_getElem.1 h.1 i j hi1 hj1 hij
  rw [hi2, hj2] at this
  unfold ltR remS at this
  omega
/-- the pairs are made greedily -/
theorem greedy (hA : Ord H (ordL H H.length)) (hB : Ord S (ordL S S.length)) :
    Greedy H.length (mateAt H S lo hi (ordL H H.length) (ordL S S.length)) (fun i b => 0 ≤ b ∧ b < (S.length : Int) ∧ ∃ a, (ordL H H.length)[i]? = some a ∧ fitB H S lo hi a b = true) (fun b => gt S b.toNat) := by
  have hBm : ∀ b ∈ ordL S S.length, 0 ≤ b ∧ b < (S.length : Int) := fun b hb => hB.mem.1 hb
  have hu := used_iff (H := H) (S := S) (lo := lo) (hi := hi) (A := ordL H H.length) hBm
  have hAl : (ordL H H.length).length = H.length := ordL_len H _
  have some_of : ∀ i b, i < H.length → mateAt H S lo hi (ordL H H.length) (ordL S S.length) i = some b → ∃ a, (ordL H H.length)[i]? = some a ∧ (ordL S S.length).find? (fun b => okP H S lo hi (pgo H S lo hi ((ordL H H.length).take i) (ordL S S.length)).used a b) = some b := by
    intro i b hi' hm
    obtain ⟨a, ha⟩ : ∃ a, (ordL H H.length)[i]? = some a := ⟨_, List.getElem?_eq_getElem (by omega)⟩
    unfold mateAt at hm
    rw [ha] at hm
    exact ⟨a, ha, hm⟩
  refine ⟨?_, ?_, ?_, ?_⟩
  · intro i b hi' hm
    obtain ⟨a, ha, hf⟩ := some_of i b hi' hm
    have h1 := List.find?_some hf
    have h2 := hBm b (List.mem_of_find?_eq_some hf)
    unfold okP at h1
    simp only [Bool.and_eq_true] at h1
    exact ⟨h2.1, h2.2, a, ha, h1.2⟩
  · have key : ∀ i j b, i < j → j < H.length → mateAt H S lo hi (ordL H H.length) (ordL S S.length) i = some b → mateAt H S lo hi (ordL H H.length) (ordL S S.length) j = some b → False := by
      intro i j b hij hj h1 h2
      obtain ⟨a, ha, hf⟩ := some_of j b hj h2
      have h3 := List.find?_some hf
      have h4 := hBm b (List.mem_of_find?_eq_some hf)
      have h5 := (hu j (by omega) b.toNat (by omega)).2 ⟨i, hij, by rw [h1]; congr 1; omega⟩
      unfold okP at h3
      rw [h5] at h3
      simp at h3
    intro i j b hi' hj h1 h2
    rcases Nat.lt_trichotomy i j with h | h | h
    · exact (key i j b h hj h1 h2).elim
    · exact h
    · exact (key j i b h hi' h2 h1).elim
  · rintro i t hi' ⟨t0, t1, a, ha, hft⟩ hno
    have hnu : bt (pgo H S lo hi ((ordL H H.length).take i) (ordL S S.length)).used t.toNat = false := by
      cases hx : bt (pgo H S lo hi ((ordL H H.length).take i) (ordL S S.length)).used t.toNat with
      | false => rfl
      | true =>
        obtain ⟨j, hj, e⟩ := (hu i (by omega) t.toNat (by omega)).1 hx
        exact absurd (by rw [e]; congr 1; omega) (hno j hj)
    have htm : t ∈ ordL S S.length := hB.mem.2 ⟨t0, t1⟩
    have hok : okP H S lo hi (pgo H S lo hi ((ordL H H.length).take i) (ordL S S.length)).used a t = true := by unfold okP; rw [hnu, hft]; rfl
    have hm : mateAt H S lo hi (ordL H H.length) (ordL S S.length) i = (ordL S S.length).find? (fun b => okP H S lo hi (pgo H S lo hi ((ordL H H.length).take i) (ordL S S.length)).used a b) := by unfold mateAt; rw [ha]
    cases hf : (ordL S S.length).find? (fun b => okP H S lo hi (pgo H S lo hi ((ordL H H.length).take i) (ordL S S.length)).used a b) with
    | none =>
      rw [List.find?_eq_none] at hf
      exact absurd hok (hf t htm)
    | some b =>
      refine ⟨b, by rw [hm, hf], ?_⟩
      obtain ⟨_, as1, bs1, hab, hall⟩ := List.find?_eq_some_iff_append.1 hf
      rw [hab] at htm
      rcases List.mem_append.1 htm with h1 | h1
      · have := hall t h1
        rw [hok] at this
        simp at this
      · rcases List.mem_cons.1 h1 with h2 | h2
        · rw [h2]; exact Int.le_refl _
        · have hs := hB.1
          rw [hab] at hs
          have := (List.pairwise_cons.1 (List.pairwise_append.1 hs).2.1).1 t h2
          unfold ltR remS at this
          show gt S b.toNat ≤ gt S t.toNat
          omega
  · rintro i j t b hij hj ⟨t0, t1, a, ha, hft⟩ ⟨b0, b1, a', ha', hfb⟩ hs
    refine ⟨t0, t1, a', ha', ?_⟩
    have hsz : gt H a.toNat ≤ gt H a'.toNat := by
      by_cases e : i = j
      · subst e; rw [ha] at ha'; cases ha'; exact Int.le_refl _
      · exact ord_pos hA ha ha' (by omega)
    unfold fitB at hft hfb ⊢
    rw [decide_eq_true_eq] at hft hfb ⊢
    have hs' : gt S b.toNat ≤ gt S t.toNat := hs
    omega
end
end Go.Proofs.Ytmoobfbjehgdnaa
