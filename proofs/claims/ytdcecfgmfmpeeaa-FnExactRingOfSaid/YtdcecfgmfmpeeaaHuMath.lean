/-
  Hulls in plain lists: points sorted and each once are one row, however they were sorted; half a hull begins and ends with the row's ends.
-/
import Derived.Test.YtdcecfgmfmpeeaaPlane
namespace Go.Proofs.Ytdcecfgmfmpeeaa

/-- sorted, each once -/
def SortU (L : List Pt) : Prop := L.Pairwise fun a b => ltp a b = true
theorem sortU_eq {A B : List Pt} (ha : SortU A) (hb : SortU B) (h : ∀ p, p ∈ A ↔ p ∈ B) : A = B := by
  induction A generalizing B with
  | nil =>
    cases B with
    | nil => rfl
    | cons b B => exact absurd ((h b).2 (List.mem_cons_self)) (by simp)
  | cons a A ih =>
    cases B with
    | nil => exact absurd ((h a).1 (List.mem_cons_self)) (by simp)
    | cons b B =>
      have ha' := List.pairwise_cons.1 ha
      have hb' := List.pairwise_cons.1 hb
      have e : a = b := by
        rcases List.mem_cons.1 ((h a).1 List.mem_cons_self) with e | h1
        · exact e
        · rcases List.mem_cons.1 ((h b).2 List.mem_cons_self) with e | h2
          · exact e.symm
          · have q1 := hb'.1 a h1
            have q2 := ha'.1 b h2
            have := ltp_asymm _ _ q1
            rw [q2] at this
            cases this
      subst e
      congr 1
      refine ih ha'.2 hb'.2 (fun p => ⟨fun hp => ?_, fun hp => ?_⟩)
      · rcases List.mem_cons.1 ((h p).1 (List.mem_cons_of_mem _ hp)) with e | h1
        · subst e
          have := ha'.1 p hp
          rw [ltp_irrefl] at this
          cases this
        · exact h1
      · rcases List.mem_cons.1 ((h p).2 (List.mem_cons_of_mem _ hp)) with e | h1
        · subst e
          have := hb'.1 p hp
          rw [ltp_irrefl] at this
          cases this
        · exact h1

/-- the model puts a point where it belongs, if it is not there -/
def insU : List Pt → Pt → List Pt
  | [], p => [p]
  | a :: L, p => if ltp a p = true then a :: insU L p else if a = p then a :: L else p :: a :: L
def srtU (L : List Pt) : List Pt := L.foldl insU []
theorem insU_mem (L : List Pt) (p q : Pt) : q ∈ insU L p ↔ q ∈ L ∨ q = p := by
  induction L with
  | nil => simp [insU]
  | cons a L ih =>
    unfold insU
    split
    · simp only [List.mem_cons, ih]
      grind
    · split
      · rename_i e
        subst e
        simp only [List.mem_cons]
        grind
      · simp only [List.mem_cons]
        grind
theorem insU_sort {L : List Pt} {p : Pt} (h : SortU L) : SortU (insU L p) := by
  induction L with
  | nil => simp [insU, SortU]
  | cons a L ih =>
    have h' := List.pairwise_cons.1 h
    unfold insU
    split
    · rename_i hap
      refine List.pairwise_cons.2 ⟨fun q hq => ?_, ih h'.2⟩
      rcases (insU_mem L p q).1 hq with hq | rfl
      · exact h'.1 q hq
      · exact hap
    · rename_i hap
      split
      · exact h
      · rename_i hne
        have hpa : ltp p a = true := by
          cases hpa : ltp p a with
          | true => rfl
          | false => exact absurd (ltp_total a p (by simpa using hap) hpa) hne
        refine List.pairwise_cons.2 ⟨fun q hq => ?_, h⟩
        rcases List.mem_cons.1 hq with rfl | hq
        · exact hpa
        · exact ltp_trans _ _ _ hpa (h'.1 q hq)
theorem foldl_insU (L : List Pt) : ∀ A : List Pt, SortU A → SortU (L.foldl insU A) ∧ ∀ q, q ∈ L.foldl insU A ↔ q ∈ A ∨ q ∈ L := by
  induction L with
  | nil => intro A h; exact ⟨h, fun q => by simp⟩
  | cons p L ih =>
    intro A h
    obtain ⟨h1, h2⟩ := ih (insU A p) (insU_sort h)
    refine ⟨h1, fun q => ?_⟩
    rw [List.foldl_cons, h2, insU_mem, List.mem_cons]
    grind
theorem srtU_facts (L : List Pt) : SortU (srtU L) ∧ ∀ q, q ∈ srtU L ↔ q ∈ L := by
  obtain ⟨h1, h2⟩ := foldl_insU L [] List.Pairwise.nil
  exact ⟨h1, fun q => by have := h2 q; simpa [srtU] using this⟩
/-- a number's place: as many as are less -/
def lessN (L : List Pt) (p : Pt) : Nat := (L.takeWhile fun a => ltp a p).length
theorem insU_at (L : List Pt) (p : Pt) : insU L p = if L[lessN L p]? = some p then L else L.take (lessN L p) ++ p :: L.drop (lessN L p) := by
  induction L with
  | nil => simp [insU, lessN]
  | cons a L ih =>
    unfold insU lessN
    by_cases h : ltp a p = true
    · rw [if_pos h, List.takeWhile_cons_of_pos (p := fun a => ltp a p) h, List.length_cons, ih]
      simp only [List.getElem?_cons_succ, List.take_succ_cons, List.drop_succ_cons]
      unfold lessN
      split
      · rfl
      · rfl
    · rw [if_neg h, List.takeWhile_cons_of_neg (p := fun a => ltp a p) h]
      simp only [List.length_nil, List.getElem?_cons_zero, Option.some.injEq, List.take_zero, List.drop_zero, List.nil_append]

/-- a row without its runs -/
def compU : List Pt → List Pt
  | [] => []
  | [a] => [a]
  | a :: b :: L => if a = b then compU (b :: L) else a :: compU (b :: L)
theorem compU_mem : ∀ (L : List Pt) (q : Pt), q ∈ compU L ↔ q ∈ L := by
  intro L
  induction L with
  | nil => intro q; simp [compU]
  | cons a L ih =>
    intro q
    cases L with
    | nil => simp [compU]
    | cons b L =>
      unfold compU
      split
      · rename_i e
        subst e
        rw [ih]
        simp only [List.mem_cons]
        grind
      · rw [List.mem_cons, ih, List.mem_cons (a := q) (b := a)]
theorem compU_sort : ∀ {L : List Pt}, L.Pairwise (fun a b => ltp b a = false) → SortU (compU L) := by
  intro L
  induction L with
  | nil => intro _; exact List.Pairwise.nil
  | cons a L ih =>
    intro h
    have h' := List.pairwise_cons.1 h
    cases L with
    | nil => simp [compU, SortU]
    | cons b L =>
      unfold compU
      split
      · exact ih h'.2
      · rename_i hne
        refine List.pairwise_cons.2 ⟨fun q hq => ?_, ih h'.2⟩
        have hq' := (compU_mem (b :: L) q).1 hq
        have hab : ltp a b = true := by
          cases hab : ltp a b with
          | true => rfl
          | false => exact absurd (ltp_total a b hab (h'.1 b List.mem_cons_self)) hne
        have h'' := List.pairwise_cons.1 h'.2
        rcases List.mem_cons.1 hq' with rfl | hq2
        · exact hab
        · have hqb := h''.1 q hq2
          cases haq : ltp a q with
          | true => rfl
          | false =>
            have := ltp_ntrans a q b haq hqb
            rw [hab] at this
            cases this
theorem comp_srt {L M : List Pt} (hs : M.Pairwise fun a b => ltp b a = false) (hm : ∀ q, q ∈ M ↔ q ∈ L) : compU M = srtU L :=
  sortU_eq (compU_sort hs) (srtU_facts L).1 (fun p => by rw [compU_mem, hm, (srtU_facts L).2])

/-- points are taken off the end (a list from its end on) while the way would not turn to the left -/
def popR : List Pt → Pt → List Pt
  | b :: a :: t, p => if side a b p ≤ 0 then popR (a :: t) p else b :: a :: t
  | s, _ => s
def halfR (L : List Pt) : List Pt := L.foldl (fun rs p => p :: popR rs p) []
def half (L : List Pt) : List Pt := (halfR L).reverse
theorem popR_ne : ∀ (s : List Pt) (p : Pt), s ≠ [] → popR s p ≠ [] ∧ (popR s p).getLast? = s.getLast? ∧ (popR s p).length ≤ s.length := by
  intro s
  induction s with
  | nil => intro p h; exact absurd rfl h
  | cons b s ih =>
    intro p _
    cases s with
    | nil => simp [popR]
    | cons a t =>
      unfold popR
      split
      · obtain ⟨h1, h2, h3⟩ := ih p (by simp)
        refine ⟨h1, ?_, by simp at h3 ⊢; omega⟩
        rw [h2, List.getLast?_cons_cons]
      · exact ⟨by simp, rfl, Nat.le_refl _⟩
theorem fold_half (L : List Pt) : ∀ s : List Pt, s ≠ [] → ∃ r, L.foldl (fun rs p => p :: popR rs p) s = r ∧ r ≠ [] ∧ r.getLast? = s.getLast? ∧ (L ≠ [] → r.head? = L.getLast?) ∧ (L ≠ [] → 2 ≤ r.length) ∧ r.length ≤ s.length + L.length := by
  induction L with
  | nil => intro s hs; exact ⟨s, rfl, hs, rfl, fun h => absurd rfl h, fun h => absurd rfl h, by simp⟩
  | cons p L ih =>
    intro s hs
    obtain ⟨h1, h2, h3⟩ := popR_ne s p hs
    obtain ⟨r, e, r1, r2, r3, r4, r5⟩ := ih (p :: popR s p) (by simp)
    refine ⟨r, e, r1, ?_, fun _ => ?_, fun _ => ?_, by simp at r5 ⊢; omega⟩
    · rw [r2, ← h2]
      cases hp : popR s p with
      | nil => exact absurd hp h1
      | cons x t => rw [List.getLast?_cons_cons]
    · cases L with
      | nil =>
        rw [← e]
        simp
      | cons q L => rw [r3 (by simp), List.getLast?_cons_cons]
    · cases L with
      | nil =>
        rw [← e]
        cases hp : popR s p with
        | nil => exact absurd hp h1
        | cons x t => simp
      | cons q L => exact r4 (by simp)
theorem half_facts {a : Pt} {L : List Pt} (hL : L ≠ []) : (half (a :: L)).head? = some a ∧ (half (a :: L)).getLast? = L.getLast? ∧ 2 ≤ (half (a :: L)).length ∧ (half (a :: L)).length ≤ (a :: L).length := by
  unfold half halfR
  obtain ⟨r, e, r1, r2, r3, r4, r5⟩ := fold_half L [a] (by simp)
  have e' : (a :: L).foldl (fun rs p => p :: popR rs p) [] = r := by rw [List.foldl_cons]; exact e
  rw [e']
  refine ⟨?_, ?_, by simpa using r4 hL, by simp at r5 ⊢; omega⟩
  · rw [List.head?_reverse, r2]
    rfl
  · rw [List.getLast?_reverse]
    exact r3 hL
theorem half_one (a : Pt) : half [a] = [a] := rfl
theorem half_two {a b : Pt} : half [a, b] = [a, b] := by simp [half, halfR, popR]
theorem half_pos (L : List Pt) (h : L ≠ []) : 1 ≤ (half L).length := by
  cases L with
  | nil => exact absurd rfl h
  | cons a L =>
    cases L with
    | nil => simp [half_one]
    | cons b L => have := (half_facts (a := a) (L := b :: L) (by simp)).2.2.1; omega

/-- the hull as the program makes it, and as the model does -/
def hullP (U : List Pt) : List Pt := half U ++ ((half U.reverse).drop 1).take (max 1 ((half U.reverse).length - 1) - 1)
def hullM (U : List Pt) : List Pt := if U.length < 3 then U else (half U).dropLast ++ (half U.reverse).dropLast
theorem hull_eq (U : List Pt) (hU : U ≠ []) : hullP U = hullM U := by
  unfold hullP hullM
  cases U with
  | nil => exact absurd rfl hU
  | cons a U =>
    cases U with
    | nil => simp [half_one]
    | cons b U =>
      cases U with
      | nil => 
        rw [if_pos (by simp)]
        simp [half_two]
      | cons c U =>
        rw [if_neg (by simp)]
        generalize hV : (a :: b :: c :: U) = V
        have h1 := half_facts (a := a) (L := b :: c :: U) (by simp)
        rw [hV] at h1
        obtain ⟨z, R, hR⟩ : ∃ z R, V.reverse = z :: R ∧ R ≠ [] := by
          cases hr : V.reverse with
          | nil => rw [List.reverse_eq_nil_iff] at hr; rw [← hV] at hr; cases hr
          | cons z R =>
            refine ⟨z, R, rfl, fun e => ?_⟩
            have := congrArg List.length hr
            rw [List.length_reverse, ← hV, e] at this
            simp at this
        have h2 := half_facts (a := z) (L := R) hR.2
        rw [← hR.1] at h2
        have hz : (half V).getLast? = some z := by
          rw [h1.2.1]
          have : V.getLast? = some z := by rw [← List.head?_reverse, hR.1]; rfl
          rw [← this, ← hV]
          simp [List.getLast?_cons_cons]
        generalize half V = X at *
        generalize half V.reverse = Y at *
        obtain ⟨X', hX⟩ : ∃ X', X = X' ++ [z] := by
          have hne : X ≠ [] := by intro e; rw [e] at hz; cases hz
          refine ⟨X.dropLast, ?_⟩
          rw [List.getLast?_eq_some_getLast hne] at hz
          have := List.dropLast_concat_getLast hne
          rw [Option.some.inj hz] at this
          exact this.symm
        obtain ⟨Y', hY⟩ : ∃ Y', Y = z :: Y' := by
          cases Y with
          | nil => cases h2.1
          | cons y Y' => have := h2.1; simp at this; exact ⟨Y', by rw [this]⟩
        subst hX hY
        have hl := h2.2.2.1
        have hYn : Y' ≠ [] := by intro e; subst e; simp at hl
        rw [List.dropLast_concat, List.drop_one, List.tail_cons, List.length_cons]
        have e2 : max 1 (Y'.length + 1 - 1) - 1 = Y'.length - 1 := by
          have : 1 ≤ Y'.length := List.length_pos_iff.2 hYn
          omega
        rw [e2, ← List.dropLast_eq_take, List.append_assoc]
        congr 1
        rw [List.dropLast_cons_of_ne_nil hYn]
        rfl
end Go.Proofs.Ytdcecfgmfmpeeaa
