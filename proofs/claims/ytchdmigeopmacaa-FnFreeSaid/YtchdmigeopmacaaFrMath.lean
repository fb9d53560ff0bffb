/-
  Freedoms behind each rule, and without the rules that say nothing new.
-/
import Derived.Test.YtchdmigeopmacaaFreeG
namespace Go.Proofs.Ytchdmigeopmacaa
open Go.ChangeShapes Go.WideShapes Go.ChangeAt Go.RowKit
set_option linter.unusedVariables false
set_option linter.unusedSimpArgs false

theorem tieL_same (s : List Int × Int) (lo hi : Nat) : ((tieL s lo hi).2 = false → (tieL s lo hi).1 = s) ∧ ((tieL s lo hi).2 = true → (tieL s lo hi).1.2 = s.2 - 1) := by
  unfold tieL
  split
  · exact ⟨fun _ => rfl, fun h => (by cases h)⟩
  · exact ⟨fun h => (by cases h), fun _ => rfl⟩
/-- what a rule does: nothing, where it says nothing new; else fewer freedoms, but for the rules of at least -/
theorem ruleL_facts (s : List Int × Int) (r : Ru) (hk : 1 ≤ r.1 ∧ r.1 ≤ 9) :
    ((ruleL s r).2 = false → (ruleL s r).1 = s) ∧ (r.1 = 5 ∨ r.1 = 6 → (ruleL s r).1 = s ∧ (ruleL s r).2 = true) ∧ ((ruleL s r).2 = true → r.1 ≠ 5 → r.1 ≠ 6 → (ruleL s r).1.2 < s.2) := by
  obtain ⟨k, a, b, m⟩ := r
  simp only at hk ⊢
  have one : ∀ lo hi : Nat, ((false || (tieL s lo hi).2) = false → (tieL s lo hi).1 = s) ∧ ((false || (tieL s lo hi).2) = true → (tieL s lo hi).1.2 < s.2) := by
    intro lo hi
    have h := tieL_same s lo hi
    rw [Bool.false_or]
    exact ⟨h.1, fun e => by have := h.2 e; omega⟩
  have hk' : k = 1 ∨ k = 2 ∨ k = 3 ∨ k = 4 ∨ k = 5 ∨ k = 6 ∨ k = 7 ∨ k = 8 ∨ k = 9 := by omega
  rcases hk' with rfl | rfl | rfl | rfl | rfl | rfl | rfl | rfl | rfl
  · exact ⟨(one _ _).1, fun h => by omega, fun h _ _ => (one _ _).2 h⟩
  · exact ⟨(one _ _).1, fun h => by omega, fun h _ _ => (one _ _).2 h⟩
  · exact ⟨(one _ _).1, fun h => by omega, fun h _ _ => (one _ _).2 h⟩
  · exact ⟨(one _ _).1, fun h => by omega, fun h _ _ => (one _ _).2 h⟩
  · exact ⟨fun _ => rfl, fun _ => ⟨rfl, rfl⟩, fun _ h => absurd rfl h⟩
  · exact ⟨fun _ => rfl, fun _ => ⟨rfl, rfl⟩, fun _ _ h => absurd rfl h⟩
  · exact ⟨(one _ _).1, fun h => by omega, fun h _ _ => (one _ _).2 h⟩
  · exact ⟨(one _ _).1, fun h => by omega, fun h _ _ => (one _ _).2 h⟩
  · have e : ruleL s (9, a, b, m) = ((tieL (tieL s (2 * a.toNat + 1) (2 * b.toNat + 1)).1 (2 * a.toNat + 2) (2 * b.toNat + 2)).1, (false || (tieL s (2 * a.toNat + 1) (2 * b.toNat + 1)).2) || (tieL (tieL s (2 * a.toNat + 1) (2 * b.toNat + 1)).1 (2 * a.toNat + 2) (2 * b.toNat + 2)).2) := rfl
    have h1 := tieL_same s (2 * a.toNat + 1) (2 * b.toNat + 1)
    have h2 := tieL_same (tieL s (2 * a.toNat + 1) (2 * b.toNat + 1)).1 (2 * a.toNat + 2) (2 * b.toNat + 2)
    rw [e]
    simp only [Bool.false_or]
    refine ⟨fun h => ?_, fun h => by omega, fun h _ _ => ?_⟩
    · rw [Bool.or_eq_false_iff] at h
      rw [h2.1 h.2, h1.1 h.1]
    · cases ha : (tieL s (2 * a.toNat + 1) (2 * b.toNat + 1)).2 with
      | false =>
        have e1 := h1.1 ha
        rw [e1] at h2 h ⊢
        rw [ha, Bool.false_or] at h
        have := h2.2 h
        omega
      | true =>
        have e1 := h1.2 ha
        cases hb : (tieL (tieL s (2 * a.toNat + 1) (2 * b.toNat + 1)).1 (2 * a.toNat + 2) (2 * b.toNat + 2)).2 with
        | false => rw [h2.1 hb]; omega
        | true => have := h2.2 hb; omega

theorem frTo_ext (N : Nat) {rs rs' : List Ru} : ∀ j, (∀ i, i < j → rs.getD i (0, 0, 0, 0) = rs'.getD i (0, 0, 0, 0)) → frTo N rs j = frTo N rs' j := by
  intro j
  induction j with
  | zero => intro _; rfl
  | succ j ih =>
    intro h
    have h1 := ih (fun i hi => h i (by omega))
    rw [frTo, frTo, h1, h j (by omega)]
theorem getD_take {rs : List Ru} {j i : Nat} (h : i < j) : (rs.take j).getD i (0, 0, 0, 0) = rs.getD i (0, 0, 0, 0) := by
  rw [List.getD_eq_getElem?_getD, List.getD_eq_getElem?_getD, List.getElem?_take, if_pos h]
theorem frTo_take (N : Nat) (rs : List Ru) (j : Nat) : frTo N (rs.take j) j = frTo N rs j := frTo_ext N j (fun i hi => getD_take hi)
/-- the rule of number i is told as saying nothing new -/
def toldR (N : Nat) (rs : List Ru) (i : Nat) : Bool := !(ruleL (frTo N rs i).1 (rs.getD i (0, 0, 0, 0))).2
theorem mem_spare (N : Nat) (rs : List Ru) (i : Nat) : ∀ l, (i ∈ (frTo N rs l).2 ↔ i < l ∧ toldR N rs i = true) := by
  intro l
  induction l with
  | zero => simp [frTo]
  | succ l ih =>
    rw [frTo]
    by_cases h : (ruleL (frTo N rs l).1 (rs.getD l (0, 0, 0, 0))).2 = true
    · rw [if_pos h, ih]
      constructor
      · rintro ⟨h1, h2⟩; exact ⟨by omega, h2⟩
      · rintro ⟨h1, h2⟩
        refine ⟨?_, h2⟩
        rcases Nat.lt_or_ge i l with h3 | h3
        · exact h3
        · have : i = l := by omega
          subst this
          unfold toldR at h2
          rw [h] at h2
          cases h2
    · rw [if_neg h, List.mem_append, ih]
      constructor
      · rintro (⟨h1, h2⟩ | h1)
        · exact ⟨by omega, h2⟩
        · rw [List.mem_singleton] at h1
          subst h1
          refine ⟨by omega, ?_⟩
          unfold toldR
          simp only [Bool.not_eq_true] at h
          rw [h]
          rfl
      · rintro ⟨h1, h2⟩
        rcases Nat.lt_or_ge i l with h3 | h3
        · exact .inl ⟨h3, h2⟩
        · exact .inr (by rw [List.mem_singleton]; omega)
/-- the rules that are not told, of the first i -/
def untold (N : Nat) (rs : List Ru) : Nat → List Ru
  | 0 => []
  | i + 1 => if toldR N rs i = true then untold N rs i else untold N rs i ++ [rs.getD i (0, 0, 0, 0)]
theorem untold_fr (N : Nat) (rs : List Ru) (hr : ∀ r ∈ rs, 1 ≤ r.1 ∧ r.1 ≤ 9) : ∀ i, i ≤ rs.length → (frTo N (untold N rs i) (untold N rs i).length) = ((frTo N rs i).1, []) := by
  intro i
  induction i with
  | zero => intro _; rfl
  | succ i ih =>
    intro hi
    have h := ih (by omega)
    have hk : 1 ≤ (rs.getD i (0, 0, 0, 0)).1 ∧ (rs.getD i (0, 0, 0, 0)).1 ≤ 9 := by
      rw [List.getD_eq_getElem?_getD, List.getElem?_eq_getElem (show i < rs.length by omega)]
      exact hr _ (List.getElem_mem _)
    have hf := ruleL_facts (frTo N rs i).1 (rs.getD i (0, 0, 0, 0)) hk
    rw [untold]
    by_cases ht : toldR N rs i = true
    · rw [if_pos ht, h]
      have : (ruleL (frTo N rs i).1 (rs.getD i (0, 0, 0, 0))).2 = false := by
        unfold toldR at ht
        simpa using ht
      rw [frTo, hf.1 this]
    · rw [if_neg ht]
      have h2 : (ruleL (frTo N rs i).1 (rs.getD i (0, 0, 0, 0))).2 = true := by
        unfold toldR at ht
        simpa using ht
      have hg : (untold N rs i ++ [rs.getD i (0, 0, 0, 0)]).getD (untold N rs i).length (0, 0, 0, 0) = rs.getD i (0, 0, 0, 0) := by
        rw [List.getD_eq_getElem?_getD, List.getElem?_append_right (Nat.le_refl _), Nat.sub_self]
        rfl
      have he : frTo N (untold N rs i ++ [rs.getD i (0, 0, 0, 0)]) (untold N rs i).length = frTo N (untold N rs i) (untold N rs i).length := frTo_ext N _ (fun j hj => by
        simp only [List.getD_eq_getElem?_getD, List.getElem?_append_left hj])
      rw [List.length_append, List.length_singleton, frTo, hg, he, h]
      simp only [h2, if_true]
      rw [frTo]
theorem untold_mem (N : Nat) (rs : List Ru) : ∀ i, i ≤ rs.length → ∀ r ∈ untold N rs i, r ∈ rs := by
  intro i
  induction i with
  | zero => intro _ r hr; cases hr
  | succ i ih =>
    intro hi r hr
    rw [untold] at hr
    split at hr
    · exact ih (by omega) r hr
    · rcases List.mem_append.1 hr with h | h
      · exact ih (by omega) r h
      · rw [List.mem_singleton] at h
        subst h
        rw [List.getD_eq_getElem?_getD, List.getElem?_eq_getElem (show i < rs.length by omega)]
        exact List.getElem_mem _
theorem untold_len (N : Nat) (rs : List Ru) : ∀ i, (untold N rs i).length ≤ i := by
  intro i
  induction i with
  | zero => exact Nat.le_refl _
  | succ i ih =>
    rw [untold]
    split
    · omega
    · rw [List.length_append, List.length_singleton]; omega
/-- fewer rules can be kept where more can -/
theorem kept_sub {N : Nat} {rs rk : List Ru} (h : ∀ r ∈ rs, ruOk (N : Int) r = true) (hs : ∀ r ∈ rk, r ∈ rs) (hk : keptP N rs = true) : keptP N rk = true := by
  rw [keptP_iff h] at hk
  rw [keptP_iff (fun r hr => h r (hs r hr))]
  obtain ⟨z, hz⟩ := hk
  refine ⟨z, ⟨?_, hz.1.2⟩, hz.2⟩
  intro e he
  apply hz.1.1 e
  unfold esP at he ⊢
  rw [List.mem_flatMap] at he ⊢
  obtain ⟨s, hs1, hs2⟩ := he
  refine ⟨s, ?_, hs2⟩
  rw [List.mem_flatMap] at hs1 ⊢
  obtain ⟨r, hr1, hr2⟩ := hs1
  exact ⟨r, hs r hr1, hr2⟩
theorem ok_sub {n : Int} {rs rk : List Ru} (h : skOk n rs = true) (hs : ∀ r ∈ rk, r ∈ rs) (hl : rk.length ≤ 60) : skOk n rk = true := by
  obtain ⟨n1, n2, l1, hr⟩ := ok_parts h
  unfold skOk
  rw [decide_eq_true (p := 1 ≤ n ∧ n ≤ 24) ⟨n1, n2⟩, decide_eq_true hl, Bool.true_and, Bool.true_and, List.all_eq_true]
  exact fun r hr' => hr r (hs r hr')
theorem ru_kind {n : Int} {r : Ru} (h : ruOk n r = true) : 1 ≤ r.1 ∧ r.1 ≤ 9 := (of_decide_eq_true h).1
/-- all that the law of freedoms asks -/
theorem free_facts {N : Nat} {rs : List Ru} (hok : skOk (N : Int) rs = true) (hk : keptP N rs = true) :
    (∀ i, i ≤ rs.length → outF (N : Int) (rs.take i) = (frTo N rs i).1.2 ∧ outC (N : Int) (rs.take i) = 0) ∧
    outF (N : Int) (untold N rs rs.length) = (frTo N rs rs.length).1.2 ∧ outC (N : Int) (untold N rs rs.length) = 0 ∧ outS (N : Int) (untold N rs rs.length) = [] := by
  obtain ⟨n1, n2, l1, hr⟩ := ok_parts hok
  refine ⟨fun i hi => ?_, ?_⟩
  · have o1 := ok_sub (rk := rs.take i) hok (fun r h => List.mem_of_mem_take h) (by rw [List.length_take]; omega)
    have o2 := kept_sub (rk := rs.take i) hr (fun r h => List.mem_of_mem_take h) hk
    unfold outF outC
    rw [if_pos o1, if_pos o1, Int.toNat_natCast, if_pos o2, if_pos o2]
    refine ⟨?_, rfl⟩
    rw [List.length_take, Nat.min_eq_left hi, frTo_take]
  · have hm := untold_mem N rs rs.length (Nat.le_refl _)
    have o1 := ok_sub (rk := untold N rs rs.length) hok hm (by have := untold_len N rs rs.length; omega)
    have o2 := kept_sub (rk := untold N rs rs.length) hr hm hk
    unfold outF outC outS
    rw [if_pos o1, if_pos o1, if_pos o1, Int.toNat_natCast, if_pos o2, if_pos o2, if_pos o2, untold_fr N rs (fun r h => ru_kind (hr r h)) _ (Nat.le_refl _)]
    exact ⟨rfl, rfl, rfl⟩
/-- how freedoms go on with a rule -/
theorem step_facts {N : Nat} {rs : List Ru} (hr : ∀ r ∈ rs, ruOk (N : Int) r = true) {i : Nat} {r : Ru} (h : rs[i]? = some r) :
    (frTo N rs (i + 1)).1.2 ≤ (frTo N rs i).1.2 ∧ (frTo N rs i).1.2 - 2 ≤ (frTo N rs (i + 1)).1.2 ∧ ((frTo N rs (i + 1)).1.2 = (frTo N rs i).1.2 ↔ (r.1 = 5 ∨ r.1 = 6) ∨ toldR N rs i = true) := by
  have hg : rs.getD i (0, 0, 0, 0) = r := by rw [List.getD_eq_getElem?_getD, h]; rfl
  have hb := ruleL_bd (frTo N rs i).1 r
  have hf := ruleL_facts (frTo N rs i).1 r (ru_kind (hr r (List.mem_of_getElem? h)))
  have e : (frTo N rs (i + 1)).1 = (ruleL (frTo N rs i).1 r).1 := by rw [frTo, hg]
  rw [e]
  refine ⟨hb.2.1, hb.1, ?_⟩
  unfold toldR
  rw [hg]
  cases ht : (ruleL (frTo N rs i).1 r).2 with
  | false => simp [hf.1 ht]
  | true =>
    constructor
    · intro h1
      by_cases h5 : r.1 = 5 ∨ r.1 = 6
      · exact .inl h5
      · have := hf.2.2 ht (by omega) (by omega)
        omega
    · rintro (h5 | h5)
      · rw [(hf.2.1 h5).1]
      · cases h5
end Go.Proofs.Ytchdmigeopmacaa
