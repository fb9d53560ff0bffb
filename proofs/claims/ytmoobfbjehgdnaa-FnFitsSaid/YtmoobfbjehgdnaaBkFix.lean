/-
  The told holes by marks: the marks that no round changes are the told ones.
-/
import Derived.Test.YtmoobfbjehgdnaaBkTold
import Derived.Test.YtmoobfbjehgdnaaRowX
namespace Go.Proofs.Ytmoobfbjehgdnaa
set_option linter.unusedVariables false
set_option linter.unusedSimpArgs false

/-- the mates by the holes' numbers -/
def mset (ps : List (Int × Int)) (L : List Int) : List Int := ps.foldl (fun L p => L.set p.1.toNat p.2) L
theorem mset_len (ps : List (Int × Int)) : ∀ L : List Int, (mset ps L).length = L.length := by
  induction ps with
  | nil => intro L; rfl
  | cons p ps ih => intro L; show (mset ps _).length = _; rw [ih, List.length_set]
theorem mset_succ {ps : List (Int × Int)} {i : Nat} {a b : Int} (h : ps[i]? = some (a, b)) (L : List Int) : mset (ps.take (i + 1)) L = (mset (ps.take i) L).set a.toNat b := by
  unfold mset
  rw [List.take_add_one, h, List.foldl_append]
  rfl
theorem gt_set (L : List Int) (i j : Nat) (x : Int) (h : i < L.length) : gt (L.set i x) j = if j = i then x else gt L j := by
  unfold gt
  by_cases e : j = i
  · subst e
    rw [if_pos rfl]
    simp [List.getD, h]
  · rw [if_neg e]
    simp [List.getD, List.getElem?_set, Ne.symm e]
theorem mset_at : ∀ (ps : List (Int × Int)) (L : List Int) (a : Nat), (∀ p ∈ ps, 0 ≤ p.1 ∧ p.1 < (L.length : Int)) → (gt (mset ps L) a = gt L a ∧ ∀ b, ((a : Int), b) ∉ ps) ∨ ((a : Int), gt (mset ps L) a) ∈ ps := by
  intro ps
  induction ps with
  | nil => intro L a _; exact .inl ⟨rfl, by simp⟩
  | cons p ps ih =>
    intro L a hp
    obtain ⟨p1, p2⟩ := p
    have h0 := hp _ List.mem_cons_self
    simp only at h0
    rcases ih (L.set p1.toNat p2) a (fun q hq => by rw [List.length_set]; exact hp q (List.mem_cons_of_mem _ hq)) with ⟨h1, h2⟩ | h1
    · rw [gt_set _ _ _ _ (by omega)] at h1
      by_cases e : a = p1.toNat
      · rw [if_pos e] at h1
        refine .inr ?_
        show ((a : Int), gt (mset ps (L.set p1.toNat p2)) a) ∈ _
        rw [h1, e, Int.toNat_of_nonneg h0.1]
        exact List.mem_cons_self
      · rw [if_neg e] at h1
        refine .inl ⟨h1, fun b hb => ?_⟩
        rcases List.mem_cons.1 hb with h5 | h5
        · have := (Prod.mk.injEq _ _ _ _ ▸ h5 : (a : Int) = p1 ∧ b = p2).1
          omega
        · exact h2 b h5
    · exact .inr (List.mem_cons_of_mem _ h1)
/-- the mates of right lists -/
def mateL (H S : List Int) (lo hi : Int) : List Int := mset (fin H S lo hi).ps (List.replicate H.length (-1))
section
variable {H S : List Int} {lo hi : Int}
theorem mateL_len : (mateL H S lo hi).length = H.length := by unfold mateL; rw [mset_len, List.length_replicate]
theorem mateL_at (a : Nat) (h : a < H.length) : (gt (mateL H S lo hi) a = -1 ∧ ∀ b, ((a : Int), b) ∉ (fin H S lo hi).ps) ∨ ((a : Int), gt (mateL H S lo hi) a) ∈ (fin H S lo hi).ps := by
  rcases mset_at (fin H S lo hi).ps (List.replicate H.length (-1)) a (fun p hp => by
    have := pair_fits (a := p.1) (b := p.2) hp
    rw [List.length_replicate]
    exact ⟨this.1, this.2.1⟩) with ⟨h1, h2⟩ | h1
  · refine .inl ⟨?_, h2⟩
    unfold mateL
    rw [h1]
    unfold gt
    simp [List.getD, h]
  · exact .inr h1
theorem mateL_pair {a b : Int} (h : (a, b) ∈ (fin H S lo hi).ps) : gt (mateL H S lo hi) a.toNat = b := by
  have hf := pair_fits h
  have ea : ((a.toNat : Nat) : Int) = a := Int.toNat_of_nonneg hf.1
  rcases mateL_at (H := H) (S := S) (lo := lo) (hi := hi) a.toNat (by omega) with ⟨_, h2⟩ | h1
  · exact absurd (by rw [ea]; exact h) (h2 b)
  · rw [ea] at h1
    exact pair_hole h1 h
theorem mateL_alone {a : Int} (h : a ∈ (fin H S lo hi).al) : gt (mateL H S lo hi) a.toNat = -1 := by
  have hl := lone_in h
  have ea : ((a.toNat : Nat) : Int) = a := Int.toNat_of_nonneg hl.1
  rcases mateL_at (H := H) (S := S) (lo := lo) (hi := hi) a.toNat (by omega) with ⟨h1, _⟩ | h1
  · exact h1
  · rw [ea] at h1
    exact absurd h1 (fun h1 => lone_pair h h1)
theorem mateL_lt (a : Nat) (h : a < H.length) : -1 ≤ gt (mateL H S lo hi) a ∧ gt (mateL H S lo hi) a < (S.length : Int) := by
  rcases mateL_at (H := H) (S := S) (lo := lo) (hi := hi) a h with ⟨h1, _⟩ | h1
  · rw [h1]; omega
  · have := pair_fits h1
    omega
/-- marks of told holes, and of the shafts that fit to a marked hole -/
structure Marks (H S : List Int) (lo hi : Int) (I F : List Bool) : Prop where
  li : I.length = H.length
  lf : F.length = S.length
  told : ∀ i, i < H.length → bt I i = true → TH H S lo hi (i : Int)
  fits : ∀ k, k < S.length → (bt F k = true ↔ ∃ i, i < H.length ∧ bt I i = true ∧ fitB H S lo hi (i : Int) (k : Int) = true)
theorem bt_rep (n i : Nat) : bt (List.replicate n false) i = false := by
  unfold bt
  by_cases h : i < n
  · simp [List.getD, h]
  · simp [List.getD, h]
theorem Marks.none : Marks H S lo hi (List.replicate H.length false) (List.replicate S.length false) :=
  ⟨by simp, by simp, fun i _ h => (by rw [bt_rep] at h; simp at h), fun k _ => ⟨fun h => (by rw [bt_rep] at h; simp at h), fun ⟨i, _, h, _⟩ => (by rw [bt_rep] at h; simp at h)⟩⟩
/-- whether a hole waits -/
def waits (H S : List Int) (lo hi : Int) (I F : List Bool) (i : Nat) : Prop := bt I i = true ∨ (0 ≤ gt (mateL H S lo hi) i ∧ bt F (gt (mateL H S lo hi) i).toNat = false)
theorem Marks.next {I F F' : List Bool} (h : Marks H S lo hi I F) {i : Nat} (hi' : i < H.length) (hw : ¬ waits H S lo hi I F i) (hl : F'.length = S.length) (hF : ∀ k, k < S.length → bt F' k = (bt F k || fitB H S lo hi (i : Int) (k : Int))) : Marks H S lo hi (I.set i true) F' := by
  have ht : TH H S lo hi (i : Int) := by
    rcases mateL_at (H := H) (S := S) (lo := lo) (hi := hi) i hi' with ⟨h1, h2⟩ | h1
    · rcases hole_case (H := H) (S := S) (lo := lo) (hi := hi) (a := (i : Int)) ⟨by omega, by omega⟩ with h3 | ⟨b, h3⟩
      · exact .alone h3
      · exact absurd h3 (h2 b)
    · have hf := pair_fits h1
      have h3 : bt F (gt (mateL H S lo hi) i).toNat = true := by
        rw [← Bool.not_eq_false]
        intro h4
        exact hw (.inr ⟨hf.2.2.1, h4⟩)
      obtain ⟨i', g1, g2, g3⟩ := (h.fits _ (by omega)).1 h3
      rw [Int.toNat_of_nonneg hf.2.2.1] at g3
      exact .step (h.told i' g1 g2) ⟨hf.2.2.1, hf.2.2.2.1⟩ g3 h1
  refine ⟨by rw [List.length_set, h.li], hl, ?_, ?_⟩
  · intro j hj hb
    rw [bt_set _ _ _ _ (by rw [h.li]; exact hi')] at hb
    by_cases e : j = i
    · rw [e]; exact ht
    · rw [if_neg e] at hb; exact h.told j hj hb
  · intro k hk
    rw [hF k hk, Bool.or_eq_true, h.fits k hk]
    constructor
    · rintro (⟨j, h1, h2, h3⟩ | h1)
      · refine ⟨j, h1, ?_, h3⟩
        rw [bt_set _ _ _ _ (by rw [h.li]; exact hi')]
        split
        · rfl
        · exact h2
      · exact ⟨i, hi', by rw [bt_set _ _ _ _ (by rw [h.li]; exact hi'), if_pos rfl], h1⟩
    · rintro ⟨j, h1, h2, h3⟩
      rw [bt_set _ _ _ _ (by rw [h.li]; exact hi')] at h2
      by_cases e : j = i
      · subst e; exact .inr h3
      · rw [if_neg e] at h2; exact .inl ⟨j, h1, h2, h3⟩
theorem Marks.done {I F : List Bool} (h : Marks H S lo hi I F) (hw : ∀ i, i < H.length → waits H S lo hi I F i) : (∀ i, i < H.length → (bt I i = true ↔ TH H S lo hi (i : Int))) ∧ (∀ k, k < S.length → (bt F k = true ↔ TS H S lo hi (k : Int))) := by
  have h1 : ∀ a : Int, TH H S lo hi a → bt I a.toNat = true := by
    intro a ha
    refine (ha.least (P := fun a => 0 ≤ a ∧ bt I a.toNat = true) ?_ ?_).2
    · intro a ha
      have := lone_in ha
      rcases hw a.toNat (by omega) with h2 | ⟨h2, _⟩
      · exact ⟨this.1, h2⟩
      · rw [mateL_alone ha] at h2; omega
    · intro a a' b hP hb hf hp
      have hp' := pair_fits hp
      rcases hw a.toNat (by omega) with h2 | ⟨_, h2⟩
      · exact ⟨hp'.1, h2⟩
      · rw [mateL_pair hp] at h2
        have ha' : 0 ≤ a' ∧ a'.toNat < H.length := by
          refine ⟨hP.1, ?_⟩
          by_cases g : a'.toNat < I.length
          · rw [h.li] at g
            exact g
          · have hP := hP.2
            unfold bt at hP
            simp [List.getD, List.getElem?_eq_none (Nat.le_of_not_lt g)] at hP
        have := (h.fits b.toNat (by omega)).2 ⟨a'.toNat, ha'.2, hP.2, by rw [Int.toNat_of_nonneg ha'.1, Int.toNat_of_nonneg hb.1]; exact hf⟩
        rw [h2] at this
        cases this
  have h2 : ∀ i, i < H.length → (bt I i = true ↔ TH H S lo hi (i : Int)) := fun i hi' => ⟨h.told i hi', fun ht => by have := h1 _ ht; rwa [Int.toNat_natCast] at this⟩
  refine ⟨h2, fun k hk => ?_⟩
  rw [h.fits k hk]
  constructor
  · rintro ⟨i, g1, g2, g3⟩
    exact ⟨⟨by omega, by omega⟩, _, h.told i g1 g2, g3⟩
  · rintro ⟨_, a, g1, g2⟩
    have ha := g1.in
    exact ⟨a.toNat, by omega, h1 a g1, by rw [Int.toNat_of_nonneg ha.1]; exact g2⟩
end
open Classical in
/-- the numbers of which P says yes, rising -/
noncomputable def those (P : Int → Prop) (n : Nat) : List Int := ((List.range n).filter (fun k : Nat => decide (P (k : Int)))).map (fun k : Nat => (k : Int))
theorem trues_those {I : List Bool} {P : Int → Prop} {n : Nat} (h : ∀ i, i < n → (bt I i = true ↔ P (i : Int))) : trues I n = those P n := by
  unfold trues those
  congr 1
  apply List.filter_congr
  intro i hi
  have := h i (List.mem_range.1 hi)
  rw [Bool.eq_iff_iff, this]
  simp
/-- how many are not marked -/
def frees (u : List Bool) : Nat := u.count false
theorem frees_set {u : List Bool} {i : Nat} (h : i < u.length) (hb : bt u i = false) : frees (u.set i true) + 1 = frees u := by
  unfold frees
  induction u generalizing i with
  | nil => simp at h
  | cons x u ih =>
    cases i with
    | zero =>
      have : x = false := by simpa [bt] using hb
      subst this
      simp
    | succ i =>
      have := ih (i := i) (by simpa using h) (by simpa [bt] using hb)
      cases x <;> simp at this ⊢ <;> omega
/-- read from the block -/
def freesAt (w : World) (g : Nat) : Nat := match w.heap[g]? with
  | some (.cells a _) => (a.toList.filter (fun v => match v with | .bool false => true | _ => false)).length
  | _ => 0
theorem freesAt_eq {w : World} {g : Nat} {u : List Bool} (h : bblk w g u) : freesAt w g = frees u := by
  unfold freesAt
  have h' : w.heap[g]? = some (.cells (u.map Value.bool).toArray 4) := h
  rw [h']
  show (List.filter _ (u.map Value.bool)).length = _
  unfold frees
  rw [List.filter_map, List.length_map, List.count_eq_countP, List.countP_eq_length_filter]
  congr 1
  apply List.filter_congr
  intro b _
  cases b <;> rfl
end Go.Proofs.Ytmoobfbjehgdnaa
