/-
  A core can not be kept, and can without any one of its rules. Points that are lower somewhere keep not all rules.
-/
import Derived.Test.YtchdmigeopmacaaKpMath
namespace Go.Proofs.Ytchdmigeopmacaa
open Go.ChangeShapes Go.WideShapes Go.ChangeAt Go.RowKit
set_option linter.unusedVariables false
set_option linter.unusedSimpArgs false

theorem erase_erase {α : Type} : ∀ (l : List α) (k i : Nat), k ≤ i → ((l.eraseIdx k).eraseIdx i).Sublist (l.eraseIdx (i + 1)) := by
  intro l
  induction l with
  | nil => intro k i _; simp
  | cons x l ih =>
    intro k i h
    cases k with
    | zero =>
      show (l.eraseIdx i).Sublist (x :: l.eraseIdx i)
      exact List.sublist_cons_self _ _
    | succ k =>
      cases i with
      | zero => omega
      | succ i =>
        show (x :: (l.eraseIdx k).eraseIdx i).Sublist (x :: l.eraseIdx (i + 1))
        exact (ih k i (by omega)).cons_cons x
theorem core_sub (bad : List Nat → Bool) : ∀ (k : Nat) (ks : List Nat), (coreGo bad k ks).Sublist ks := by
  intro k
  induction k with
  | zero => intro ks; exact List.Sublist.refl _
  | succ k ih =>
    intro ks
    unfold coreGo
    split
    · exact (ih _).trans (List.eraseIdx_sublist _ _)
    · exact ih _
theorem core_bad (bad : List Nat → Bool) : ∀ (k : Nat) (ks : List Nat), bad ks = true → bad (coreGo bad k ks) = true := by
  intro k
  induction k with
  | zero => intro ks h; exact h
  | succ k ih =>
    intro ks h
    unfold coreGo
    split
    · rename_i h2; exact ih _ h2
    · exact ih _ h
theorem core_min (bad : List Nat → Bool) (mono : ∀ a b : List Nat, a.Sublist b → bad a = true → bad b = true) : ∀ (k : Nat) (ks : List Nat), (∀ i, k ≤ i → i < ks.length → bad (ks.eraseIdx i) = false) → ∀ i, i < (coreGo bad k ks).length → bad ((coreGo bad k ks).eraseIdx i) = false := by
  intro k
  induction k with
  | zero => intro ks h i hi; exact h i (Nat.zero_le _) hi
  | succ k ih =>
    intro ks h
    unfold coreGo
    split
    · rename_i h2
      apply ih
      intro i hki hi
      have hl : (ks.eraseIdx k).length ≤ ks.length - 1 ∨ ks.length ≤ k := by
        by_cases hk : k < ks.length
        · exact .inl (by rw [List.length_eraseIdx_of_lt hk]; exact Nat.le_refl _)
        · exact .inr (by omega)
      rcases hl with hl | hl
      · have h3 := h (i + 1) (by omega) (by omega)
        cases hb : bad ((ks.eraseIdx k).eraseIdx i) with
        | false => rfl
        | true =>
          have := mono _ _ (erase_erase ks k i hki) hb
          rw [h3] at this
          cases this
      · rw [List.eraseIdx_of_length_le hl] at hi
        omega
    · rename_i h2
      apply ih
      intro i hki hi
      rcases Nat.eq_or_lt_of_le hki with e | e
      · subst e
        exact Bool.eq_false_iff.2 h2
      · exact h i e hi
theorem FP_sub {N : Nat} {a b : List Ru} {z : Nat → Int} (h : ∀ r ∈ a, r ∈ b) (hz : FP N b z) : FP N a z := by
  refine ⟨⟨fun e he => hz.1.1 e ?_, hz.1.2⟩, hz.2⟩
  unfold esP at he ⊢
  obtain ⟨s, hs, h2⟩ := List.mem_flatMap.1 he
  obtain ⟨r, hr, h3⟩ := List.mem_flatMap.1 hs
  exact List.mem_flatMap.2 ⟨s, List.mem_flatMap.2 ⟨r, h r hr, h3⟩, h2⟩
theorem pick_sub {rs : List Ru} {a b : List Nat} (h : a.Sublist b) : (pick rs a).Sublist (pick rs b) := h.map _
theorem ok_mem {N : Nat} {rs : List Ru} (hr : ∀ r ∈ rs, ruOk (N : Int) r = true) {ks : List Nat} (hk : ∀ j ∈ ks, j < rs.length) : ∀ r ∈ pick rs ks, ruOk (N : Int) r = true := pick_ok hr hk
/-- of rules that can't be kept: the core can't, and can without any one of them -/
theorem core_facts {N : Nat} {rs : List Ru} (hr : ∀ r ∈ rs, ruOk (N : Int) r = true) (hk : keptP N rs = false) :
    keptP N (pick rs (coreGo (badK N rs) rs.length (List.range rs.length))) = false ∧ (∀ j ∈ coreGo (badK N rs) rs.length (List.range rs.length), j < rs.length) ∧
    ∀ i, i < (coreGo (badK N rs) rs.length (List.range rs.length)).length → keptP N (pick rs ((coreGo (badK N rs) rs.length (List.range rs.length)).eraseIdx i)) = true := by
  have hsub := core_sub (badK N rs) rs.length (List.range rs.length)
  have hmem : ∀ j ∈ coreGo (badK N rs) rs.length (List.range rs.length), j < rs.length := fun j hj => by simpa using hsub.subset hj
  refine ⟨?_, hmem, ?_⟩
  · have := core_bad (badK N rs) rs.length (List.range rs.length) (by unfold badK; rw [pick_all, hk]; rfl)
    have e : badK N rs (coreGo (badK N rs) rs.length (List.range rs.length)) = !keptP N (pick rs (coreGo (badK N rs) rs.length (List.range rs.length))) := rfl
    rw [e] at this
    generalize keptP N (pick rs (coreGo (badK N rs) rs.length (List.range rs.length))) = b at *
    cases b
    · rfl
    · cases this
  · -- what is longer is worse; where a number is none of a rule, all is as a rule that is not there
    have mono : ∀ a b : List Nat, a.Sublist b → (∀ j ∈ b, j < rs.length) → badK N rs a = true → badK N rs b = true := by
      intro a b hab hb h
      cases hbb : badK N rs b with
      | true => rfl
      | false =>
        unfold badK at h hbb
        have h1 : keptP N (pick rs b) = true := by simpa using hbb
        have h2 : keptP N (pick rs a) = false := by simpa using h
        obtain ⟨z, hz⟩ := (keptP_iff (pick_ok hr hb)).1 h1
        have := (keptP_iff (pick_ok hr (fun j hj => hb j (hab.subset hj)))).2 ⟨z, FP_sub (fun r hra => (pick_sub hab).subset hra) hz⟩
        rw [h2] at this
        cases this
    intro i hi
    have hm := core_min (fun ks => badK N rs (ks.filter (fun j => decide (j < rs.length)))) (fun a b hab h => mono _ _ (hab.filter _) (fun j hj => by simpa using (List.mem_filter.1 hj).2) h) rs.length (List.range rs.length) (fun i h1 h2 => by simp at h2; omega)
    have same : ∀ (k : Nat) (ks : List Nat), (∀ j ∈ ks, j < rs.length) → coreGo (fun ks => badK N rs (ks.filter (fun j => decide (j < rs.length)))) k ks = coreGo (badK N rs) k ks := by
      intro k
      induction k with
      | zero => intro ks _; rfl
      | succ k ih =>
        intro ks hks
        have hf : (ks.eraseIdx k).filter (fun j => decide (j < rs.length)) = ks.eraseIdx k := List.filter_eq_self.2 (fun j hj => by simpa using hks j (List.mem_of_mem_eraseIdx hj))
        unfold coreGo
        simp only [hf]
        split
        · exact ih _ (fun j hj => hks j (List.mem_of_mem_eraseIdx hj))
        · exact ih _ hks
    rw [same _ _ (fun j hj => by simpa using hj)] at hm
    have h3 := hm i hi
    have hf : ((coreGo (badK N rs) rs.length (List.range rs.length)).eraseIdx i).filter (fun j => decide (j < rs.length)) = (coreGo (badK N rs) rs.length (List.range rs.length)).eraseIdx i := List.filter_eq_self.2 (fun j hj => by simpa using hmem j (List.mem_of_mem_eraseIdx hj))
    simp only [hf] at h3
    have e : badK N rs ((coreGo (badK N rs) rs.length (List.range rs.length)).eraseIdx i) = !keptP N (pick rs ((coreGo (badK N rs) rs.length (List.range rs.length)).eraseIdx i)) := rfl
    rw [e] at h3
    generalize keptP N (pick rs ((coreGo (badK N rs) rs.length (List.range rs.length)).eraseIdx i)) = b at *
    cases b
    · cases h3
    · rfl
theorem pick_erase (rs : List Ru) (C : List Nat) (i : Nat) : pick rs (C.eraseIdx i) = (pick rs C).take i ++ (pick rs C).drop (i + 1) := by
  rw [List.eraseIdx_eq_take_drop_succ]
  simp [pick]
theorem kept_nil (N : Nat) : keptP N [] = true := by
  refine (keptP_iff (fun r h => by cases h)).2 ⟨fun _ => 0, ⟨⟨fun e he => absurd he (by simp [esP]), fun _ _ => Int.le_refl _⟩, rfl, fun _ _ => (by decide : (0 : Int) ≤ 100000)⟩⟩

/-- points that are at most as high, by one at most, and lower at one place -/
structure Lw (P Q : List Int) (n j0 : Nat) : Prop where
  len : Q.length = n * 2
  le : ∀ j, j < n * 2 → gt P j - 1 ≤ gt Q j ∧ gt Q j ≤ gt P j
  lt : gt Q j0 < gt P j0
  h0 : j0 < n * 2
theorem gt_set_at {L : List Int} {j i : Nat} {x : Int} (hj : j < L.length) : gt (L.set j x) i = if i = j then x else gt L i := by
  unfold gt
  rw [List.getD_eq_getElem?_getD, List.getElem?_set]
  split
  · rename_i e
    subst e
    simp [hj]
  · rename_i e
    rw [if_neg (fun h => e h.symm), List.getD_eq_getElem?_getD]
theorem Lw.first {P : List Int} {n j0 : Nat} (hl : P.length = n * 2) (hj : j0 < n * 2) : Lw P (P.set j0 (gt P j0 - 1)) n j0 := by
  refine ⟨by simpa using hl, fun j h => ?_, ?_, hj⟩
  · rw [gt_set_at (by omega)]
    split
    · rename_i e
      subst e
      omega
    · omega
  · rw [gt_set_at (by omega), if_pos rfl]
    omega
theorem Lw.more {P Q : List Int} {n j0 j1 : Nat} (h : Lw P Q n j0) (hj : j1 < n * 2) (e : gt Q j1 = gt P j1) : Lw P (Q.set j1 (gt Q j1 - 1)) n j0 := by
  have hl := h.len
  refine ⟨by simpa using h.len, fun j hj2 => ?_, ?_, h.h0⟩
  · rw [gt_set_at (by omega)]
    have := h.le j hj2
    split
    · rename_i e2
      subst e2
      omega
    · exact this
  · rw [gt_set_at (by omega)]
    have := h.lt
    split
    · rename_i e2
      subst e2
      omega
    · exact this
theorem Lw.not {N : Nat} {rs : List Ru} {Q : List Int} {j0 : Nat} (hr : ∀ r ∈ rs, ruOk (N : Int) r = true) (hk : keptP N rs = true) (h : Lw (ptsP (goP N rs).1 N) Q N j0) (h0 : ∀ j, j < N * 2 → 0 ≤ gt Q j) : rs.all (keepF Q) = false := by
  cases hq : rs.all (keepF Q) with
  | false => rfl
  | true =>
    have h1 := least_all hr hk hq h0 j0 h.h0
    have h2 := h.lt
    omega
end Go.Proofs.Ytchdmigeopmacaa
