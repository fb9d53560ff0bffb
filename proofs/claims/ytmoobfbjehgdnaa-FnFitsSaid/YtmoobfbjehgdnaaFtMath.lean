/-
  What is asked of pairs and of the reason why there are no more, in lists.
-/
import Derived.Test.YtmoobfbjehgdnaaBkRun
namespace Go.Proofs.Ytmoobfbjehgdnaa
set_option linter.unusedVariables false
set_option linter.unusedSimpArgs false

section
variable {H S : List Int} {lo hi : Int}
theorem ps_sub (A B : List Int) : ∀ i, i ≤ A.length → ((pgo H S lo hi (A.take i) B).ps.map Prod.fst).Sublist (A.take i) := by
  intro i
  induction i with
  | zero => intro _; simp [pgo, pst0]
  | succ i ih =>
    intro h
    obtain ⟨x, hx⟩ : ∃ x, A[i]? = some x := ⟨_, List.getElem?_eq_getElem (by omega)⟩
    have h1 := ih (by omega)
    have e : A.take (i + 1) = A.take i ++ [x] := by rw [List.take_add_one, hx]; rfl
    rw [pgo_succ hx, e]
    unfold pstep
    split
    · simp only [List.map_append, List.map_cons, List.map_nil]
      exact h1.append (List.Sublist.refl _)
    · exact h1.trans (List.sublist_append_left _ _)
theorem fst_nodup : ((fin H S lo hi).ps.map Prod.fst).Nodup := by
  have h := ps_sub (H := H) (S := S) (lo := lo) (hi := hi) (ordL H H.length) (ordL S S.length) _ (Nat.le_refl _)
  rw [List.take_length] at h
  have hn : (ordL H H.length).Nodup := (ordL_spec H H.length).2.nodup_iff.2 ((marks_lt H.length).imp (fun h => Int.ne_of_lt h))
  exact hn.sublist h
theorem snd_nodup : ((fin H S lo hi).ps.map Prod.snd).Nodup := by
  have h := fst_nodup (H := H) (S := S) (lo := lo) (hi := hi)
  unfold List.Nodup at h ⊢
  rw [List.pairwise_map] at h ⊢
  refine List.Pairwise.imp_of_mem ?_ h
  rintro ⟨a, b⟩ ⟨a', b'⟩ h1 h2 h3 h4
  simp only at h3 h4
  subst h4
  exact h3 (pair_shaft h1 h2)
/-- as many told holes more than told shafts as holes are in no pair -/
theorem told_count : (those (TH H S lo hi) H.length).length + (fin H S lo hi).ps.length = H.length + (those (TS H S lo hi) S.length).length := by
  have hnd : ((fin H S lo hi).al ++ (those (TS H S lo hi) S.length).map (holeOf (fin H S lo hi).ps)).Nodup := by
    rw [List.nodup_append]
    refine ⟨al_nodup, ?_, ?_⟩
    · unfold List.Nodup
      rw [List.pairwise_map]
      refine List.Pairwise.imp_of_mem ?_ (those_rise (TS H S lo hi) S.length)
      intro s s' h1 h2 h3 h4
      have p1 := (those_mem.1 h1).2.2.pair.1
      have p2 := (those_mem.1 h2).2.2.pair.1
      rw [h4] at p1
      have := pair_hole p1 p2
      omega
    · intro a ha b hb e
      subst e
      obtain ⟨s, hs, rfl⟩ := List.mem_map.1 hb
      exact lone_pair ha (those_mem.1 hs).2.2.pair.1
  have hmem : ∀ x, x ∈ ((fin H S lo hi).al ++ (those (TS H S lo hi) S.length).map (holeOf (fin H S lo hi).ps)) ↔ 0 ≤ x ∧ x < (H.length : Int) ∧ TH H S lo hi x := by
    intro x
    rw [List.mem_append]
    constructor
    · rintro (h | h)
      · exact ⟨(lone_in h).1, (lone_in h).2, .alone h⟩
      · obtain ⟨s, hs, rfl⟩ := List.mem_map.1 h
        have := (those_mem.1 hs).2.2.pair.2
        exact ⟨this.in.1, this.in.2, this⟩
    · rintro ⟨h1, h2, h3⟩
      rcases hole_case (S := S) (lo := lo) (hi := hi) ⟨h1, h2⟩ with h | ⟨b, hb⟩
      · exact .inl h
      · right
        have hf := pair_fits hb
        refine List.mem_map.2 ⟨b, those_mem.2 ⟨hf.2.2.1, hf.2.2.2.1, ⟨hf.2.2.1, hf.2.2.2.1⟩, x, h3, hf.2.2.2.2⟩, holeOf_pair hb⟩
  have h1 := srt_those hnd hmem
  have h2 := (srt_perm ((fin H S lo hi).al ++ (those (TS H S lo hi) S.length).map (holeOf (fin H S lo hi).ps))).length_eq
  rw [h1, List.length_append, List.length_map] at h2
  have h3 := (pgo_len H S lo hi (ordL H H.length) (ordL S S.length)).2
  rw [ordL_len] at h3
  have h4 : (fin H S lo hi).ps.length + (fin H S lo hi).al.length = H.length := h3
  omega
end
/-- numbers as flags -/
def fl (n : Nat) (L : List Int) : List Bool := (List.range n).map fun k : Nat => decide ((k : Int) ∈ L)
theorem fl_at {n k : Nat} (L : List Int) (h : k < n) : (fl n L)[k]? = some (decide ((k : Int) ∈ L)) := by simp [fl, h]
theorem fl_len (n : Nat) (L : List Int) : (fl n L).length = n := by simp [fl]
theorem fl_set (n : Nat) (L : List Int) (a : Nat) : (fl n L).set a true = fl n (L ++ [(a : Int)]) := by
  apply List.ext_getElem?
  intro j
  by_cases hj : j < n
  · rw [fl_at _ hj, List.getElem?_set]
    by_cases hb : a = j
    · subst hb
      simp [fl, hj]
    · rw [if_neg hb, fl_at _ hj]
      have : ¬ j = a := fun e => hb e.symm
      have h3 : ¬ ((j : Int) = (a : Int)) := by omega
      by_cases h2 : (j : Int) ∈ L <;> simp [h3, h2]
  · rw [List.getElem?_eq_none (by simp [fl]; omega), List.getElem?_eq_none (by simp [fl]; omega)]
theorem fl_nil (n : Nat) : fl n [] = List.replicate n false := by
  apply List.ext_getElem?
  intro j
  by_cases hj : j < n
  · rw [fl_at _ hj]; simp [hj]
  · rw [List.getElem?_eq_none (by simp [fl]; omega), List.getElem?_eq_none (by simp; omega)]
theorem nodup_fresh {L : List Int} (h : L.Nodup) {i : Nat} {x : Int} (hx : L[i]? = some x) : x ∉ L.take i := by
  intro hm
  obtain ⟨j, hj, e⟩ := List.getElem_of_mem hm
  have hj' : j < i := by simp at hj; omega
  have hil := (List.getElem?_eq_some_iff.1 hx).1
  have e1 : L[j]? = some x := by rw [← e]; simp [List.getElem_take]
  have h2 := (List.pairwise_iff_getElem.1 h) j i (by omega) hil hj'
  have e2 : L[i] = x := (List.getElem?_eq_some_iff.1 hx).2
  have e3 : L[j]'(by omega) = x := (List.getElem?_eq_some_iff.1 e1).2
  exact h2 (e3.trans e2.symm)
theorem rise_at {L : List Int} (h : L.Pairwise (· < ·)) {i : Nat} {x y : Int} (hx : L[i + 1]? = some x) (hy : L[i]? = some y) : y < x := by
  have h1 := (List.getElem?_eq_some_iff.1 hx)
  have h2 := (List.getElem?_eq_some_iff.1 hy)
  have := (List.pairwise_iff_getElem.1 h) i (i + 1) h2.1 h1.1 (by omega)
  rw [h1.2, h2.2] at this
  exact this
end Go.Proofs.Ytmoobfbjehgdnaa
