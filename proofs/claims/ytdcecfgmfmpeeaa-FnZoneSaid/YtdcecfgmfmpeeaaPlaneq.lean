/-
  The plane in plain numbers: sides, signs, what two segments have in common told in two ways that are one. Hulls in plain lists: points sorted and each once are one row, however they were sorted; half a hull begins and ends with the row's ends. A hull's sides have all points to their left, or on them. Strips along the sides of a hull, in lists.
-/
import Derived.ProofKit
import Derived.IntWalk
namespace Go.Proofs.Ytdcecfgmfmpeeaa
abbrev Pt := Int × Int
def ptOk (p : Pt) : Bool := decide (-100000 ≤ p.1 ∧ p.1 ≤ 100000 ∧ -100000 ≤ p.2 ∧ p.2 ≤ 100000)
def sgn (n : Int) : Int := if 0 < n then 1 else if n < 0 then -1 else 0
def sub (p q : Pt) : Pt := (p.1 - q.1, p.2 - q.2)
def side (a b c : Pt) : Int := (b.1 - a.1) * (c.2 - a.2) - (b.2 - a.2) * (c.1 - a.1)
def ltp (a b : Pt) : Bool := decide (a.1 < b.1 ∨ a.1 = b.1 ∧ a.2 < b.2)
theorem sgn_pos {n : Int} (h : 0 < n) : sgn n = 1 := by simp [sgn, h]
theorem sgn_neg {n : Int} (h : n < 0) : sgn n = -1 := by unfold sgn; rw [if_neg (by omega), if_pos h]
abbrev Sp := Int × Int × Int
def redG (x y d : Int) : Nat := Nat.gcd (Nat.gcd x.natAbs y.natAbs) d.natAbs
def red (x y d : Int) : Sp := (x.tdiv (redG x y d), y.tdiv (redG x y d), d.tdiv (redG x y d))
def redM (x y d : Int) : Sp := if d < 0 then red (-x) (-y) (-d) else red x y d
theorem side_swap (a b c : Pt) : side b a c = - side a b c := by simp only [side]; grind
theorem ltp_total (a b : Pt) (h : ltp a b = false) (h2 : ltp b a = false) : a = b := by
 obtain ⟨a1, a2⟩ := a
 obtain ⟨b1, b2⟩ := b
 simp only [ltp, decide_eq_false_iff_not] at h h2
 rw [Prod.mk.injEq]; omega
theorem ltp_irrefl (a : Pt) : ltp a a = false := by simp [ltp]
theorem ltp_trans (a b c : Pt) (h : ltp a b = true) (h2 : ltp b c = true) : ltp a c = true := by
 simp only [ltp, decide_eq_true_eq] at *; omega
theorem ltp_ntrans (a b c : Pt) (h : ltp a b = false) (h2 : ltp b c = false) : ltp a c = false := by
 simp only [ltp, decide_eq_false_iff_not] at *; omega
theorem ltp_asymm (a b : Pt) (h : ltp a b = true) : ltp b a = false := by
 simp only [ltp, decide_eq_true_eq, decide_eq_false_iff_not] at *; omega
def SortU (L : List Pt) : Prop := L.Pairwise fun a b => ltp a b = true
theorem sortU_eq {A B : List Pt} (ha : SortU A) (hb : SortU B) (h : ∀ p, p ∈ A ↔ p ∈ B) : A = B := by
 induction A generalizing B with
 | nil =>
  cases B with
  | nil => rfl
  | cons b B => exact absurd ((h b).2 (List.mem_cons_self)) (by simp)
 | cons a A ih =>
  cases B with
  | nil => exact absurd ((h a).1 (List.mem_cons_self)) (by simp)
  | cons b B =>
   have ha' := List.pairwise_cons.1 ha
   have hb' := List.pairwise_cons.1 hb
   have e : a = b := by
    rcases List.mem_cons.1 ((h a).1 List.mem_cons_self) with e | h1
    ·exact e
    ·rcases List.mem_cons.1 ((h b).2 List.mem_cons_self) with e | h2
     ·exact e.symm
     ·have q1 := hb'.1 a h1
      have q2 := ha'.1 b h2
      have := ltp_asymm _ _ q1
      rw [q2] at this
      cases this
   subst e
   congr 1
   refine ih ha'.2 hb'.2 (fun p => ⟨fun hp => ?_, fun hp => ?_⟩)
   ·rcases List.mem_cons.1 ((h p).1 (List.mem_cons_of_mem _ hp)) with e | h1
    ·subst e
     have := ha'.1 p hp
     rw [ltp_irrefl] at this
     cases this
    ·exact h1
   ·rcases List.mem_cons.1 ((h p).2 (List.mem_cons_of_mem _ hp)) with e | h1
    ·subst e
     have := hb'.1 p hp
     rw [ltp_irrefl] at this
     cases this
    ·exact h1
def insU : List Pt → Pt → List Pt
 | [], p => [p]
 | a :: L, p => if ltp a p = true then a :: insU L p else if a = p then a :: L else p :: a :: L
def srtU (L : List Pt) : List Pt := L.foldl insU []
theorem insU_mem (L : List Pt) (p q : Pt) : q ∈ insU L p ↔ q ∈ L ∨ q = p := by
 induction L with
 | nil => simp [insU]
 | cons a L ih =>
  unfold insU
  split
  ·simp only [List.mem_cons, ih]
   grind
  ·split
   ·rename_i e
    subst e
    simp only [List.mem_cons]
    grind
   ·simp only [List.mem_cons]
    grind
theorem insU_sort {L : List Pt} {p : Pt} (h : SortU L) : SortU (insU L p) := by
 induction L with
 | nil => simp [insU, SortU]
 | cons a L ih =>
  have h' := List.pairwise_cons.1 h
  unfold insU
  split
  ·rename_i hap
   refine List.pairwise_cons.2 ⟨fun q hq => ?_, ih h'.2⟩
   rcases (insU_mem L p q).1 hq with hq | rfl
   ·exact h'.1 q hq
   ·exact hap
  ·rename_i hap
   split
   ·exact h
   ·rename_i hne
    have hpa : ltp p a = true := by
     cases hpa : ltp p a with
     | true => rfl
     | false => exact absurd (ltp_total a p (by simpa using hap) hpa) hne
    refine List.pairwise_cons.2 ⟨fun q hq => ?_, h⟩
    rcases List.mem_cons.1 hq with rfl | hq
    ·exact hpa
    ·exact ltp_trans _ _ _ hpa (h'.1 q hq)
theorem foldl_insU (L : List Pt) : ∀ A : List Pt, SortU A → SortU (L.foldl insU A) ∧ ∀ q, q ∈ L.foldl insU A ↔ q ∈ A ∨ q ∈ L := by
 induction L with
 | nil => intro A h; exact ⟨h, fun q => by simp⟩
 | cons p L ih =>
  intro A h
  obtain ⟨h1, h2⟩ := ih (insU A p) (insU_sort h)
  refine ⟨h1, fun q => ?_⟩
  rw [List.foldl_cons, h2, insU_mem, List.mem_cons]
  grind
theorem srtU_facts (L : List Pt) : SortU (srtU L) ∧ ∀ q, q ∈ srtU L ↔ q ∈ L := by
 obtain ⟨h1, h2⟩ := foldl_insU L [] List.Pairwise.nil
 exact ⟨h1, fun q => by have := h2 q; simpa [srtU] using this⟩
def lessN (L : List Pt) (p : Pt) : Nat := (L.takeWhile fun a => ltp a p).length
theorem insU_at (L : List Pt) (p : Pt) : insU L p = if L[lessN L p]? = some p then L else L.take (lessN L p) ++ p :: L.drop (lessN L p) := by
 induction L with
 | nil => simp [insU, lessN]
 | cons a L ih =>
  unfold insU lessN
  by_cases h : ltp a p = true
  ·rw [if_pos h, List.takeWhile_cons_of_pos (p := fun a => ltp a p) h, List.length_cons, ih]
   simp only [List.getElem?_cons_succ, List.take_succ_cons, List.drop_succ_cons]
   unfold lessN
   split
   ·rfl
   ·rfl
  ·rw [if_neg h, List.takeWhile_cons_of_neg (p := fun a => ltp a p) h]
   simp only [List.length_nil, List.getElem?_cons_zero, Option.some.injEq, List.take_zero, List.drop_zero, List.nil_append]
def compU : List Pt → List Pt
 | [] => []
 | [a] => [a]
 | a :: b :: L => if a = b then compU (b :: L) else a :: compU (b :: L)
theorem compU_mem : ∀ (L : List Pt) (q : Pt), q ∈ compU L ↔ q ∈ L := by
 intro L
 induction L with
 | nil => intro q; simp [compU]
 | cons a L ih =>
  intro q
  cases L with
  | nil => simp [compU]
  | cons b L =>
   unfold compU
   split
   ·rename_i e
    subst e
    rw [ih]
    simp only [List.mem_cons]
    grind
   ·rw [List.mem_cons, ih, List.mem_cons (a := q) (b := a)]
theorem compU_sort : ∀ {L : List Pt}, L.Pairwise (fun a b => ltp b a = false) → SortU (compU L) := by
 intro L
 induction L with
 | nil => intro _; exact List.Pairwise.nil
 | cons a L ih =>
  intro h
  have h' := List.pairwise_cons.1 h
  cases L with
  | nil => simp [compU, SortU]
  | cons b L =>
   unfold compU
   split
   ·exact ih h'.2
   ·rename_i hne
    refine List.pairwise_cons.2 ⟨fun q hq => ?_, ih h'.2⟩
    have hq' := (compU_mem (b :: L) q).1 hq
    have hab : ltp a b = true := by
     cases hab : ltp a b with
     | true => rfl
     | false => exact absurd (ltp_total a b hab (h'.1 b List.mem_cons_self)) hne
    have h'' := List.pairwise_cons.1 h'.2
    rcases List.mem_cons.1 hq' with rfl | hq2
    ·exact hab
    ·have hqb := h''.1 q hq2
     cases haq : ltp a q with
     | true => rfl
     | false =>
      have := ltp_ntrans a q b haq hqb
      rw [hab] at this
      cases this
theorem comp_srt {L M : List Pt} (hs : M.Pairwise fun a b => ltp b a = false) (hm : ∀ q, q ∈ M ↔ q ∈ L) : compU M = srtU L :=
 sortU_eq (compU_sort hs) (srtU_facts L).1 (fun p => by rw [compU_mem, hm, (srtU_facts L).2])
def popR : List Pt → Pt → List Pt
 | b :: a :: t, p => if side a b p ≤ 0 then popR (a :: t) p else b :: a :: t
 | s, _ => s
def halfR (L : List Pt) : List Pt := L.foldl (fun rs p => p :: popR rs p) []
def half (L : List Pt) : List Pt := (halfR L).reverse
theorem popR_ne : ∀ (s : List Pt) (p : Pt), s ≠ [] → popR s p ≠ [] ∧ (popR s p).getLast? = s.getLast? ∧ (popR s p).length ≤ s.length := by
 intro s
 induction s with
 | nil => intro p h; exact absurd rfl h
 | cons b s ih =>
  intro p _
  cases s with
  | nil => simp [popR]
  | cons a t =>
   unfold popR
   split
   ·obtain ⟨h1, h2, h3⟩ := ih p (by simp)
    refine ⟨h1, ?_, by simp at h3 ⊢; omega⟩
    rw [h2, List.getLast?_cons_cons]
   ·exact ⟨by simp, rfl, Nat.le_refl _⟩
theorem fold_half (L : List Pt) : ∀ s : List Pt, s ≠ [] → ∃ r, L.foldl (fun rs p => p :: popR rs p) s = r ∧ r ≠ [] ∧ r.getLast? = s.getLast? ∧ (L ≠ [] → r.head? = L.getLast?) ∧ (L ≠ [] → 2 ≤ r.length) ∧ r.length ≤ s.length + L.length := by
 induction L with
 | nil => intro s hs; exact ⟨s, rfl, hs, rfl, fun h => absurd rfl h, fun h => absurd rfl h, by simp⟩
 | cons p L ih =>
  intro s hs
  obtain ⟨h1, h2, h3⟩ := popR_ne s p hs
  obtain ⟨r, e, r1, r2, r3, r4, r5⟩ := ih (p :: popR s p) (by simp)
  refine ⟨r, e, r1, ?_, fun _ => ?_, fun _ => ?_, by simp at r5 ⊢; omega⟩
  ·rw [r2, ← h2]
   cases hp : popR s p with
   | nil => exact absurd hp h1
   | cons x t => rw [List.getLast?_cons_cons]
  ·cases L with
   | nil =>
    rw [← e]
    simp
   | cons q L => rw [r3 (by simp), List.getLast?_cons_cons]
  ·cases L with
   | nil =>
    rw [← e]
    cases hp : popR s p with
    | nil => exact absurd hp h1
    | cons x t => simp
   | cons q L => exact r4 (by simp)
theorem half_facts {a : Pt} {L : List Pt} (hL : L ≠ []) : (half (a :: L)).head? = some a ∧ (half (a :: L)).getLast? = L.getLast? ∧ 2 ≤ (half (a :: L)).length ∧ (half (a :: L)).length ≤ (a :: L).length := by
 unfold half halfR
 obtain ⟨r, e, r1, r2, r3, r4, r5⟩ := fold_half L [a] (by simp)
 have e' : (a :: L).foldl (fun rs p => p :: popR rs p) [] = r := by rw [List.foldl_cons]; exact e
 rw [e']
 refine ⟨?_, ?_, by simpa using r4 hL, by simp at r5 ⊢; omega⟩
 ·rw [List.head?_reverse, r2]
  rfl
 ·rw [List.getLast?_reverse]
  exact r3 hL
theorem half_one (a : Pt) : half [a] = [a] := rfl
theorem half_two {a b : Pt} : half [a, b] = [a, b] := by simp [half, halfR, popR]
theorem half_pos (L : List Pt) (h : L ≠ []) : 1 ≤ (half L).length := by
 cases L with
 | nil => exact absurd rfl h
 | cons a L =>
  cases L with
  | nil => simp [half_one]
  | cons b L => have := (half_facts (a := a) (L := b :: L) (by simp)).2.2.1; omega
def hullP (U : List Pt) : List Pt := half U ++ ((half U.reverse).drop 1).take (max 1 ((half U.reverse).length - 1) - 1)
def hullM (U : List Pt) : List Pt := if U.length < 3 then U else (half U).dropLast ++ (half U.reverse).dropLast
theorem hull_eq (U : List Pt) (hU : U ≠ []) : hullP U = hullM U := by
 unfold hullP hullM
 cases U with
 | nil => exact absurd rfl hU
 | cons a U =>
  cases U with
  | nil => simp [half_one]
  | cons b U =>
   cases U with
   | nil => 
    rw [if_pos (by simp)]
    simp [half_two]
   | cons c U =>
    rw [if_neg (by simp)]
    generalize hV : (a :: b :: c :: U) = V
    have h1 := half_facts (a := a) (L := b :: c :: U) (by simp)
    rw [hV] at h1
    obtain ⟨z, R, hR⟩ : ∃ z R, V.reverse = z :: R ∧ R ≠ [] := by
     cases hr : V.reverse with
     | nil => rw [List.reverse_eq_nil_iff] at hr; rw [← hV] at hr; cases hr
     | cons z R =>
      refine ⟨z, R, rfl, fun e => ?_⟩
      have := congrArg List.length hr
      rw [List.length_reverse, ← hV, e] at this
      simp at this
    have h2 := half_facts (a := z) (L := R) hR.2
    rw [← hR.1] at h2
    have hz : (half V).getLast? = some z := by
     rw [h1.2.1]
     have : V.getLast? = some z := by rw [← List.head?_reverse, hR.1]; rfl
     rw [← this, ← hV]
     simp [List.getLast?_cons_cons]
    generalize half V = X at *
    generalize half V.reverse = Y at *
    obtain ⟨X', hX⟩ : ∃ X', X = X' ++ [z] := by
     have hne : X ≠ [] := by intro e; rw [e] at hz; cases hz
     refine ⟨X.dropLast, ?_⟩
     rw [List.getLast?_eq_some_getLast hne] at hz
     have := List.dropLast_concat_getLast hne
     rw [Option.some.inj hz] at this
     exact this.symm
    obtain ⟨Y', hY⟩ : ∃ Y', Y = z :: Y' := by
     cases Y with
     | nil => cases h2.1
     | cons y Y' => have := h2.1; simp at this; exact ⟨Y', by rw [this]⟩
    subst hX hY
    have hl := h2.2.2.1
    have hYn : Y' ≠ [] := by intro e; subst e; simp at hl
    rw [List.dropLast_concat, List.drop_one, List.tail_cons, List.length_cons]
    have e2 : max 1 (Y'.length + 1 - 1) - 1 = Y'.length - 1 := by
     have : 1 ≤ Y'.length := List.length_pos_iff.2 hYn
     omega
    rw [e2, ← List.dropLast_eq_take, List.append_assoc]
    congr 1
    rw [List.dropLast_cons_of_ne_nil hYn]
    rfl
set_option linter.unusedVariables false
def fw (x y : Int) : Prop := 0 < x ∨ (x = 0 ∧ 0 ≤ y)
theorem ltp_fw {a b : Pt} (h : ltp a b = true) : fw (b.1 - a.1) (b.2 - a.2) ∧ ¬ (b.1 - a.1 = 0 ∧ b.2 - a.2 = 0) := by
 have := of_decide_eq_true h
 unfold fw
 omega
theorem sgn_of {u1 u2 c r1 r2 : Int} (hu : fw u1 u2) (hu0 : ¬ (u1 = 0 ∧ u2 = 0)) (e1 : c * u1 = r1) (e2 : c * u2 = r2) (h1 : 0 ≤ r1) (h2 : u1 = 0 → 0 ≤ r2) : 0 ≤ c := by
 by_cases hc : 0 ≤ c
 ·exact hc
 ·exfalso
  rcases hu with h | ⟨h, h'⟩
  ·have : c * u1 < 0 := Int.mul_neg_of_neg_of_pos (by omega) h
   omega
  ·have hp : 0 < u2 := by omega
   have : c * u2 < 0 := Int.mul_neg_of_neg_of_pos (by omega) hp
   have := h2 h
   omega
theorem fw_1 {x y : Int} (h : fw x y) : 0 ≤ x := by rcases h with h | ⟨h, _⟩ <;> omega
theorem fw_2 {x y : Int} (h : fw x y) (hx : x = 0) : 0 ≤ y := by rcases h with h | ⟨_, h⟩ <;> omega
theorem crs {u1 u2 v1 v2 w1 w2 : Int} (hu : fw u1 u2) (hu0 : ¬ (u1 = 0 ∧ u2 = 0)) (hv : fw v1 v2) (hw : fw w1 w2) (h1 : 0 ≤ u1 * v2 - u2 * v1) (h2 : u1 * w2 - u2 * w1 ≤ 0) : 0 ≤ w1 * v2 - w2 * v1 := by
 refine sgn_of (c := w1 * v2 - w2 * v1) hu hu0 (r1 := (u1 * v2 - u2 * v1) * w1 + -(u1 * w2 - u2 * w1) * v1) (r2 := (u1 * v2 - u2 * v1) * w2 + -(u1 * w2 - u2 * w1) * v2) (by grind) (by grind) ?_ ?_
 ·exact Int.add_nonneg (Int.mul_nonneg h1 (fw_1 hw)) (Int.mul_nonneg (by omega) (fw_1 hv))
 ·intro e
  subst e
  have hu2 : 0 < u2 := by have := fw_2 hu rfl; omega
  have hv1 : v1 = 0 := by
   have h3 : u2 * v1 ≤ 0 := by simpa using h1
   have h4 := fw_1 hv
   rcases Int.lt_or_eq_of_le h4 with h5 | h5
   ·have := Int.mul_pos hu2 h5; omega
   ·omega
  subst hv1
  have hv2 := fw_2 hv rfl
  have h5 : 0 ≤ u2 * w1 := Int.mul_nonneg (by omega) (fw_1 hw)
  have e2 : (0 * v2 - u2 * 0) * w2 + -(0 * w2 - u2 * w1) * v2 = (u2 * w1) * v2 := by grind
  rw [e2]
  exact Int.mul_nonneg h5 hv2
theorem crs3 {u1 u2 v1 v2 w1 w2 : Int} (hu : fw u1 u2) (hv : fw v1 v2) (hv0 : ¬ (v1 = 0 ∧ v2 = 0)) (hw : fw w1 w2) (h1 : 0 ≤ u1 * v2 - u2 * v1) (h2 : 0 ≤ v1 * w2 - v2 * w1) : 0 ≤ u1 * w2 - u2 * w1 := by
 refine sgn_of (c := u1 * w2 - u2 * w1) hv hv0 (r1 := (u1 * v2 - u2 * v1) * w1 + (v1 * w2 - v2 * w1) * u1) (r2 := (u1 * v2 - u2 * v1) * w2 + (v1 * w2 - v2 * w1) * u2) (by grind) (by grind) ?_ ?_
 ·exact Int.add_nonneg (Int.mul_nonneg h1 (fw_1 hw)) (Int.mul_nonneg h2 (fw_1 hu))
 ·intro e
  subst e
  have hv2 : 0 < v2 := by have := fw_2 hv rfl; omega
  have hw1 : w1 = 0 := by
   have h3 : v2 * w1 ≤ 0 := by simpa using h2
   rcases Int.lt_or_eq_of_le (fw_1 hw) with h5 | h5
   ·have := Int.mul_pos hv2 h5; omega
   ·omega
  subst hw1
  have hw2 := fw_2 hw rfl
  have e2 : (u1 * v2 - u2 * 0) * w2 + (0 * w2 - v2 * 0) * u2 = u1 * v2 * w2 := by grind
  rw [e2]
  exact Int.mul_nonneg (Int.mul_nonneg (fw_1 hu) (by omega)) hw2
def leP (a b : Pt) : Prop := a = b ∨ ltp a b = true
theorem leP_fw {a b : Pt} (h : leP a b) : fw (b.1 - a.1) (b.2 - a.2) := by
 rcases h with rfl | h
 ·right; omega
 ·exact (ltp_fw h).1
theorem pop_left {a b p q : Pt} (hab : ltp a b = true) (hap : ltp a p = true) (haq : leP a q) (h1 : 0 ≤ side a b q) (h2 : side a b p ≤ 0) : 0 ≤ side a p q := by
 have := crs (ltp_fw hab).1 (ltp_fw hab).2 (leP_fw haq) (ltp_fw hap).1 (u1 := b.1 - a.1) (u2 := b.2 - a.2) (v1 := q.1 - a.1) (v2 := q.2 - a.2) (w1 := p.1 - a.1) (w2 := p.2 - a.2) h1 h2
 exact this
theorem side_ns (a b p : Pt) : side a b p = (b.1 - a.1) * (p.2 - b.2) - (b.2 - a.2) * (p.1 - b.1) := by unfold side; grind
theorem new_left {a b p q : Pt} (hab : ltp a b = true) (hbp : ltp b p = true) (hqb : leP q b) (h1 : 0 ≤ side a b q) (h2 : 0 ≤ side a b p) : 0 ≤ side b p q := by
 rw [side_ns] at h1 h2
 have hv := leP_fw hqb
 have hw := (ltp_fw hbp).1
 have hu := ltp_fw hab
 have h3 : side b p q = (p.1 - b.1) * (q.2 - b.2) - (p.2 - b.2) * (q.1 - b.1) := rfl
 rw [h3]
 -- turned round: v' = b - q
 have key := crs3 (u1 := b.1 - q.1) (u2 := b.2 - q.2) (v1 := b.1 - a.1) (v2 := b.2 - a.2) (w1 := p.1 - b.1) (w2 := p.2 - b.2) hv hu.1 hu.2 hw (by grind) h2
 grind
theorem low_left {a b c p : Pt} (hab : ltp a b = true) (hbc : ltp b c = true) (hcp : ltp c p = true) (h1 : 0 < side a b c) (h2 : 0 < side b c p) : 0 < side a b p := by
 have e1 := side_ns a b c
 have e2 := side_ns b c p
 have key := crs3 (u1 := b.1 - a.1) (u2 := b.2 - a.2) (v1 := c.1 - b.1) (v2 := c.2 - b.2) (w1 := p.1 - c.1) (w2 := p.2 - c.2) (ltp_fw hab).1 (ltp_fw hbc).1 (ltp_fw hbc).2 (ltp_fw hcp).1 (by omega) (by omega)
 have e3 : side a b p = side a b c + ((b.1 - a.1) * (p.2 - c.2) - (b.2 - a.2) * (p.1 - c.1)) := by unfold side; grind
 omega
theorem leP_total (a b : Pt) : leP a b ∨ ltp b a = true := by
 cases h : ltp b a with
 | true => exact .inr rfl
 | false =>
  left
  cases h2 : ltp a b with
  | true => exact .inr h2
  | false => exact .inl (ltp_total a b h2 h)
def EdgeOk (P : List Pt) : List Pt → Prop
 | b :: a :: t => (∀ q ∈ P, 0 ≤ side a b q) ∧ EdgeOk P (a :: t)
 | _ => True
def TurnOk : List Pt → Prop
 | c :: b :: a :: t => 0 < side a b c ∧ TurnOk (b :: a :: t)
 | _ => True
def Dec (s : List Pt) : Prop := s.Pairwise fun b a => ltp a b = true
theorem EdgeOk.tail {P : List Pt} {b : Pt} {s : List Pt} (h : EdgeOk P (b :: s)) : EdgeOk P s := by
 cases s with
 | nil => trivial
 | cons a t => exact h.2
theorem TurnOk.tail {b : Pt} {s : List Pt} (h : TurnOk (b :: s)) : TurnOk s := by
 cases s with
 | nil => trivial
 | cons a t =>
  cases t with
  | nil => trivial
  | cons c t => exact h.2
theorem EdgeOk.app {P Q : List Pt} : ∀ {s : List Pt}, EdgeOk P s → EdgeOk Q s → EdgeOk (P ++ Q) s
 | [], _, _ => trivial
 | [_], _, _ => trivial
 | b :: a :: t, h, k => ⟨fun q hq => by rcases List.mem_append.1 hq with h1 | h1; exact h.1 q h1; exact k.1 q h1, EdgeOk.app h.2 k.2⟩
theorem edges_new {p : Pt} : ∀ {s : List Pt}, Dec s → TurnOk s → (∀ q ∈ s, ltp q p = true) → (∀ x a t, s = x :: a :: t → 0 < side a x p) → EdgeOk [p] s
 | [], _, _, _, _ => trivial
 | [_], _, _, _, _ => trivial
 | [b, a], _, _, _, h => ⟨fun q hq => by rw [List.mem_singleton] at hq; subst hq; exact Int.le_of_lt (h b a [] rfl), trivial⟩
 | c :: b :: a :: t, hd, ht, hp, h => by
  have h0 := h c b (a :: t) rfl
  have hd1 := List.pairwise_cons.1 hd
  have hd2 := List.pairwise_cons.1 hd1.2
  have h1 : 0 < side a b p := low_left (hd2.1 a List.mem_cons_self) (hd1.1 b List.mem_cons_self) (hp c List.mem_cons_self) ht.1 h0
  refine ⟨fun q hq => by rw [List.mem_singleton] at hq; subst hq; exact Int.le_of_lt h0, ?_⟩
  refine edges_new hd1.2 ht.2 (fun q hq => hp q (List.mem_cons_of_mem _ hq)) ?_
  intro x a' t' e
  injection e with e1 e2
  injection e2 with e2 e3
  subst e1 e2
  exact h1
theorem pop_inv {P : List Pt} {p : Pt} (hp : ∀ q ∈ P, ltp q p = true) : ∀ (s : List Pt) (x : Pt), Dec (x :: s) → (∀ q ∈ x :: s, q ∈ P) → EdgeOk P (x :: s) → TurnOk (x :: s) → (∀ q ∈ P, leP x q → 0 ≤ side x p q) →
  ∃ y t, popR (x :: s) p = y :: t ∧ Dec (y :: t) ∧ (∀ q ∈ y :: t, q ∈ P) ∧ EdgeOk P (y :: t) ∧ TurnOk (y :: t) ∧ (y :: t).getLast? = (x :: s).getLast? ∧ (∀ q ∈ P, leP y q → 0 ≤ side y p q) ∧ (∀ a t', t = a :: t' → 0 < side a y p) := by
 intro s
 induction s with
 | nil =>
  intro x hd hs he ht hj
  exact ⟨x, [], rfl, hd, hs, he, ht, rfl, hj, fun a t' e => by cases e⟩
 | cons a s ih =>
  intro x hd hs he ht hj
  unfold popR
  have hd1 := List.pairwise_cons.1 hd
  have hax := hd1.1 a List.mem_cons_self
  have haP := hs a (List.mem_cons_of_mem _ List.mem_cons_self)
  split
  ·rename_i hle
   obtain ⟨y, t, h1, h2, h3, h4, h5, h6, h7, h8⟩ := ih a hd1.2 (fun q hq => hs q (List.mem_cons_of_mem _ hq)) he.tail ht.tail (fun q hq haq => pop_left hax (hp a haP) haq (he.1 q hq) hle)
   exact ⟨y, t, h1, h2, h3, h4, h5, by rw [h6, List.getLast?_cons_cons], h7, h8⟩
  ·rename_i hgt
   refine ⟨x, a :: s, rfl, hd, hs, he, ht, rfl, hj, fun a' t' e => ?_⟩
   injection e with e1 e2
   subst e1
   omega
structure Stk (P s : List Pt) : Prop where
 ne : s ≠ []
 dec : Dec s
 sub : ∀ q ∈ s, q ∈ P
 edge : EdgeOk P s
 turn : TurnOk s
 top : ∀ x, s.head? = some x → ∀ q ∈ P, leP q x
 bot : ∀ z, s.getLast? = some z → ∀ q ∈ P, leP z q
theorem Stk.step {P s : List Pt} {p : Pt} (h : Stk P s) (hp : ∀ q ∈ P, ltp q p = true) : Stk (P ++ [p]) (p :: popR s p) := by
 cases s with
 | nil => exact absurd rfl h.ne
 | cons x s =>
  have hx := h.top x rfl
  obtain ⟨y, t, e, h2, h3, h4, h5, h6, h7, h8⟩ := pop_inv hp s x h.dec h.sub h.edge h.turn (fun q hq hxq => by
   have h1 : x = q := by
    rcases hxq with e | e
    ·exact e
    ·rcases hx q hq with e' | e'
     ·exact e'.symm
     ·have := ltp_asymm _ _ e; rw [e'] at this; cases this
   subst h1
   unfold side; grind)
  rw [e]
  have hyP := h3 y List.mem_cons_self
  have hlast : ∀ z, (y :: t).getLast? = some z → ∀ q ∈ P, leP z q := fun z hz => h.bot z (by rw [← h6]; exact hz)
  have hnew : EdgeOk [p] (y :: t) := edges_new h2 h5 (fun q hq => hp q (h3 q hq)) (fun x' a t' e' => by
   injection e' with e1 e2
   subst e1
   exact h8 a t' e2)
  refine ⟨by simp, ?_, ?_, ?_, ?_, ?_, ?_⟩
  ·exact List.pairwise_cons.2 ⟨fun q hq => hp q (h3 q hq), h2⟩
  ·intro q hq
   rcases List.mem_cons.1 hq with rfl | hq
   ·simp
   ·exact List.mem_append_left _ (h3 q hq)
  ·refine ⟨fun q hq => ?_, h4.app hnew⟩
   rcases List.mem_append.1 hq with hq | hq
   ·rcases leP_total y q with hl | hl
    ·exact h7 q hq hl
    ·cases t with
     | nil => exact h7 q hq (hlast y rfl q hq)
     | cons a t' =>
      have hay := (List.pairwise_cons.1 h2).1 a List.mem_cons_self
      exact new_left hay (hp y hyP) (.inr hl) (h4.1 q hq) (Int.le_of_lt (h8 a t' rfl))
   ·rw [List.mem_singleton] at hq
    subst hq
    unfold side; grind
  ·cases t with
   | nil => trivial
   | cons a t' => exact ⟨h8 a t' rfl, h5⟩
  ·intro x' hx' q hq
   simp only [List.head?_cons, Option.some.injEq] at hx'
   subst hx'
   rcases List.mem_append.1 hq with hq | hq
   ·exact .inr (hp q hq)
   ·rw [List.mem_singleton] at hq; exact .inl hq
  ·intro z hz q hq
   rw [List.getLast?_cons_cons] at hz
   have hzm := h3 z (List.mem_of_getLast? hz)
   rcases List.mem_append.1 hq with hq | hq
   ·exact hlast z hz q hq
   ·rw [List.mem_singleton] at hq; subst hq; exact .inr (hp z hzm)
theorem stk_fold : ∀ (L P s : List Pt), Stk P s → SortU (P ++ L) → Stk (P ++ L) (L.foldl (fun rs p => p :: popR rs p) s)
 | [], P, s, h, _ => by simpa using h
 | p :: L, P, s, h, hs => by
  have e : P ++ p :: L = (P ++ [p]) ++ L := by simp
  rw [e] at hs ⊢
  have hp : ∀ q ∈ P, ltp q p = true := fun q hq => (List.pairwise_append.1 (List.pairwise_append.1 hs).1).2.2 q hq p (by simp)
  exact stk_fold L (P ++ [p]) _ (h.step hp) hs
theorem half_stk {L : List Pt} (hL : L ≠ []) (hs : SortU L) : Stk L (halfR L) := by
 cases L with
 | nil => exact absurd rfl hL
 | cons a L =>
  have h0 : Stk [a] [a] := ⟨by simp, by simp [Dec], by simp, trivial, trivial, fun x hx q hq => by simp at hx hq; subst hx hq; exact .inl rfl, fun z hz q hq => by simp at hz hq; subst hz hq; exact .inl rfl⟩
  exact stk_fold L [a] [a] h0 hs
theorem edge_at {P : List Pt} : ∀ {s : List Pt} {j : Nat} {a b : Pt}, EdgeOk P s → s[j]? = some b → s[j + 1]? = some a → ∀ q ∈ P, 0 ≤ side a b q
 | [], _, _, _, _, h, _ => by simp at h
 | [_], j, _, _, _, _, h => by simp at h
 | y :: x :: t, 0, a, b, h, h1, h2 => by
  simp at h1 h2
  subst h1 h2
  exact h.1
 | y :: x :: t, j + 1, a, b, h, h1, h2 => edge_at h.2 (by simpa using h1) (by simpa using h2)
theorem half_left {L : List Pt} (hs : SortU L) {i : Nat} {a b : Pt} (ha : (half L)[i]? = some a) (hb : (half L)[i + 1]? = some b) : ∀ q ∈ L, 0 ≤ side a b q := by
 have hL : L ≠ [] := by rintro rfl; simp [half, halfR] at ha
 have h := (half_stk hL hs).edge
 unfold half at ha hb
 have hbl := (List.getElem?_eq_some_iff.1 hb).1
 rw [List.length_reverse] at hbl
 rw [List.getElem?_reverse (by omega)] at ha hb
 refine edge_at h (j := (halfR L).length - 1 - (i + 1)) hb ?_
 rw [← ha]
 congr 1
 omega
def neg (p : Pt) : Pt := (-p.1, -p.2)
theorem side_neg (a b c : Pt) : side (neg a) (neg b) (neg c) = side a b c := by unfold side neg; grind
theorem ltp_neg (a b : Pt) : ltp (neg a) (neg b) = ltp b a := by
 unfold ltp neg
 rw [decide_eq_decide]
 simp only
 omega
theorem popR_neg (p : Pt) : ∀ s : List Pt, popR (s.map neg) (neg p) = (popR s p).map neg
 | [] => rfl
 | [_] => rfl
 | b :: a :: t => by
  simp only [List.map_cons]
  unfold popR
  rw [side_neg]
  split
  ·have := popR_neg p (a :: t)
   simpa using this
  ·simp
theorem halfR_neg (L : List Pt) : halfR (L.map neg) = (halfR L).map neg := by
 have h : ∀ (L s : List Pt), (L.map neg).foldl (fun rs p => p :: popR rs p) (s.map neg) = (L.foldl (fun rs p => p :: popR rs p) s).map neg := by
  intro L
  induction L with
  | nil => intro s; rfl
  | cons p L ih =>
   intro s
   simp only [List.map_cons, List.foldl_cons]
   rw [popR_neg]
   have := ih (p :: popR s p)
   simpa using this
 exact h L []
theorem half_neg (L : List Pt) : half (L.map neg) = (half L).map neg := by unfold half; rw [halfR_neg, List.map_reverse]
theorem sortU_neg {U : List Pt} (h : SortU U) : SortU (U.reverse.map neg) := by
 unfold SortU at h ⊢
 rw [List.pairwise_map, List.pairwise_reverse]
 exact h.imp (fun {a b} hab => by rw [ltp_neg]; exact hab)
theorem upper_left {U : List Pt} (hs : SortU U) {i : Nat} {a b : Pt} (ha : (half U.reverse)[i]? = some a) (hb : (half U.reverse)[i + 1]? = some b) : ∀ q ∈ U, 0 ≤ side a b q := by
 intro q hq
 have h := half_left (sortU_neg hs) (i := i) (a := neg a) (b := neg b) (by rw [half_neg, List.getElem?_map, ha]; rfl) (by rw [half_neg, List.getElem?_map, hb]; rfl) (neg q) (List.mem_map.2 ⟨q, by simpa using hq, rfl⟩)
 rwa [side_neg] at h
theorem hull_edge {U : List Pt} (hU : 3 ≤ U.length) {i : Nat} {a b : Pt} (ha : (hullM U)[i]? = some a) (hb : (hullM U)[(i + 1) % (hullM U).length]? = some b) :
  (∃ j, (half U)[j]? = some a ∧ (half U)[j + 1]? = some b) ∨ (∃ j, (half U.reverse)[j]? = some a ∧ (half U.reverse)[j + 1]? = some b) := by
 unfold hullM at ha hb
 rw [if_neg (by omega)] at ha hb
 obtain ⟨u, V, rfl⟩ : ∃ u V, U = u :: V := by
  cases U with
  | nil => simp at hU
  | cons u V => exact ⟨u, V, rfl⟩
 have hV : V ≠ [] := by rintro rfl; simp at hU
 have h1 := half_facts (a := u) hV
 obtain ⟨z, R, hR⟩ : ∃ z R, (u :: V).reverse = z :: R ∧ R ≠ [] := by
  cases hr : (u :: V).reverse with
  | nil => rw [List.reverse_eq_nil_iff] at hr; cases hr
  | cons z R =>
   refine ⟨z, R, rfl, fun e => ?_⟩
   have := congrArg List.length hr
   rw [List.length_reverse, e] at this
   simp only [List.length_cons, List.length_nil] at this hU
   omega
 have h2 := half_facts (a := z) hR.2
 have hz : V.getLast? = some z := by
  have e : (u :: V).getLast? = some z := by rw [← List.head?_reverse, hR.1]; rfl
  rw [← e]
  cases V with
  | nil => exact absurd rfl hV
  | cons v V => rw [List.getLast?_cons_cons]
 have hu : R.getLast? = some u := by
  have e : (z :: R).getLast? = some u := by rw [← hR.1, List.getLast?_reverse]; rfl
  rw [← e]
  cases hRR : R with
  | nil => exact absurd hRR hR.2
  | cons v V => rw [List.getLast?_cons_cons]
 rw [hR.1] at ha hb ⊢
 rw [hz] at h1
 rw [hu] at h2
 generalize half (u :: V) = X at *
 generalize half (z :: R) = Y at *
 obtain ⟨x0, xl, x2, _⟩ := h1
 obtain ⟨y0, yl, y2, _⟩ := h2
 have ex0 : X[0]? = some u := by rw [← List.head?_eq_getElem?]; exact x0
 have ey0 : Y[0]? = some z := by rw [← List.head?_eq_getElem?]; exact y0
 have exl : X[X.length - 1]? = some z := by rw [← List.getLast?_eq_getElem?]; exact xl
 have eyl : Y[Y.length - 1]? = some u := by rw [← List.getLast?_eq_getElem?]; exact yl
 have hlen : (X.dropLast ++ Y.dropLast).length = (X.length - 1) + (Y.length - 1) := by simp
 have hil := (List.getElem?_eq_some_iff.1 ha).1
 rw [hlen] at hil hb
 have getX : ∀ k, k < X.length - 1 → (X.dropLast ++ Y.dropLast)[k]? = X[k]? := fun k hk => by
  rw [List.getElem?_append_left (by simpa using hk), List.dropLast_eq_take, List.getElem?_take, if_pos hk]
 have getY : ∀ k, k < Y.length - 1 → (X.dropLast ++ Y.dropLast)[X.length - 1 + k]? = Y[k]? := fun k hk => by
  rw [List.getElem?_append_right (by simp), List.length_dropLast, Nat.add_sub_cancel_left, List.dropLast_eq_take, List.getElem?_take, if_pos hk]
 by_cases hi : i < X.length - 1
 ·left
  refine ⟨i, by rw [← getX i hi]; exact ha, ?_⟩
  rw [Nat.mod_eq_of_lt (by omega)] at hb
  by_cases hi2 : i + 1 < X.length - 1
  ·rw [← getX _ hi2]; exact hb
  ·have e : i + 1 = X.length - 1 := by omega
   rw [e] at hb ⊢
   have := getY 0 (by omega)
   rw [Nat.add_zero] at this
   rw [this, ey0] at hb
   rw [exl]; exact hb
 ·right
  obtain ⟨k, rfl⟩ : ∃ k, i = X.length - 1 + k := ⟨i - (X.length - 1), by omega⟩
  have hk : k < Y.length - 1 := by omega
  refine ⟨k, by rw [← getY k hk]; exact ha, ?_⟩
  by_cases hk2 : k + 1 < Y.length - 1
  ·rw [Nat.mod_eq_of_lt (by omega)] at hb
   rw [← getY _ hk2, ← Nat.add_assoc]
   exact hb
  ·have e : k + 1 = Y.length - 1 := by omega
   have e2 : (X.length - 1 + k + 1) % (X.length - 1 + (Y.length - 1)) = 0 := by
    rw [show X.length - 1 + k + 1 = X.length - 1 + (Y.length - 1) by omega]
    exact Nat.mod_self _
   rw [e2, getX 0 (by omega), ex0] at hb
   rw [e, eyl]
   exact hb
theorem hull_left {U : List Pt} (hs : SortU U) (hU : 3 ≤ U.length) {i : Nat} {a b : Pt} (ha : (hullM U)[i]? = some a) (hb : (hullM U)[(i + 1) % (hullM U).length]? = some b) : ∀ q ∈ U, 0 ≤ side a b q := by
 rcases hull_edge hU ha hb with ⟨j, h1, h2⟩ | ⟨j, h1, h2⟩
 ·exact half_left hs h1 h2
 ·exact upper_left hs h1 h2
set_option linter.unusedSimpArgs false
def ptAt (L : List Pt) (i : Nat) : Pt := L.getD i (0, 0)
theorem ptAt_some {L : List Pt} {i : Nat} (h : i < L.length) : L[i]? = some (ptAt L i) := by
 unfold ptAt
 rw [List.getD_eq_getElem?_getD, List.getElem?_eq_getElem h]
 rfl
theorem ptAt_of {L : List Pt} {i : Nat} {p : Pt} (h : L[i]? = some p) : ptAt L i = p := by
 unfold ptAt
 rw [List.getD_eq_getElem?_getD, h]
 rfl
def fi (L : List Pt) (p : Pt) : Nat := (L.takeWhile fun q => decide (q ≠ p)).length
structure Fst (L : List Pt) (p : Pt) (j : Nat) : Prop where
 at' : L[j]? = some p
 no : ∀ i, i < j → L[i]? ≠ some p
theorem fi_fst {L : List Pt} {p : Pt} (h : p ∈ L) : Fst L p (fi L p) := by
 induction L with
 | nil => cases h
 | cons q L ih =>
  by_cases e : q = p
  ·subst e
   have : fi (q :: L) q = 0 := by simp [fi]
   rw [this]
   exact ⟨rfl, fun i hi => by omega⟩
  ·have h2 : p ∈ L := by
    rcases List.mem_cons.1 h with h | h
    ·exact absurd h.symm e
    ·exact h
   have he : fi (q :: L) p = fi L p + 1 := by simp [fi, e]
   obtain ⟨h3, h4⟩ := ih h2
   rw [he]
   refine ⟨by simpa using h3, fun i hi => ?_⟩
   cases i with
   | zero => simpa using e
   | succ i => simpa using h4 i (by omega)
theorem Fst.lt {L : List Pt} {p : Pt} {j : Nat} (h : Fst L p j) : j < L.length := (List.getElem?_eq_some_iff.1 h.at').1
def frM (f : Nat → Int) : Nat → Nat
 | 0 => 0
 | k + 1 => if f (frM f k) < f k then k else frM f k
def frP (f : Nat → Int) : Nat → Nat × Int
 | 0 => (0, 0)
 | k + 1 => if (frP f k).2 < f k then (k, f k) else frP f k
theorem frM_lt (f : Nat → Int) {n : Nat} (hn : 1 ≤ n) : ∀ k, k ≤ n → frM f k < n
 | 0, _ => by show 0 < n; omega
 | k + 1, h => by
  rw [frM]
  split
  ·omega
  ·exact frM_lt f hn k (by omega)
theorem fr_eq {f : Nat → Int} {n : Nat} (hf : ∀ k, k < n → 0 ≤ f k) : ∀ k, 1 ≤ k → k ≤ n → frP f k = (frM f k, f (frM f k))
 | 0, h, _ => by omega
 | 1, _, hn => by
  have h0 := hf 0 (by omega)
  show (if (0 : Int) < f 0 then (0, f 0) else (0, 0)) = (if f 0 < f 0 then 0 else 0, f (if f 0 < f 0 then 0 else 0))
  rw [if_neg (by omega : ¬ f 0 < f 0)]
  by_cases h : 0 < f 0
  ·rw [if_pos h]
  ·rw [if_neg h, show f 0 = 0 by omega]
 | k + 2, _, hn => by
  have ih := fr_eq hf (k + 1) (by omega) (by omega)
  rw [frP, frM, ih]
  split
  ·rfl
  ·rfl
structure Zo where
 A : Int
 B : Int
 C : Int
 N : Int
 D : Int
def sqd (a b : Pt) : Int := (a.1 - b.1) * (a.1 - b.1) + (a.2 - b.2) * (a.2 - b.2)
def zn (L : List Pt) (a b : Pt) : Zo := ⟨fi L a, fi L b, frM (fun k => side a b (ptAt L k)) L.length, side a b (ptAt L (frM (fun k => side a b (ptAt L k)) L.length)) * side a b (ptAt L (frM (fun k => side a b (ptAt L k)) L.length)), sqd a b⟩
def bst (z : Nat → Zo) : Nat → Zo
 | 0 => z 0
 | k + 1 => if (z (k + 1)).N * (bst z k).D < (bst z k).N * (z (k + 1)).D then z (k + 1) else bst z k
def Near (L : List Pt) : Prop := ∀ p ∈ L, -200 ≤ p.1 ∧ p.1 ≤ 200 ∧ -200 ≤ p.2 ∧ p.2 ≤ 200
theorem mulB {x y a b : Int} (hx : -a ≤ x ∧ x ≤ a) (hy : -b ≤ y ∧ y ≤ b) (ha : 0 ≤ a) (hb : 0 ≤ b) : -(a * b) ≤ x * y ∧ x * y ≤ a * b := by
 have h1 : 0 ≤ (a - x) * (b + y) := Int.mul_nonneg (by omega) (by omega)
 have h2 : 0 ≤ (a + x) * (b - y) := Int.mul_nonneg (by omega) (by omega)
 have h3 : 0 ≤ (a - x) * (b - y) := Int.mul_nonneg (by omega) (by omega)
 have h4 : 0 ≤ (a + x) * (b + y) := Int.mul_nonneg (by omega) (by omega)
 have e1 : (a - x) * (b + y) = a * b + a * y - x * b - x * y := by rw [Int.sub_mul, Int.mul_add, Int.mul_add]; omega
 have e2 : (a + x) * (b - y) = a * b - a * y + x * b - x * y := by rw [Int.add_mul, Int.mul_sub, Int.mul_sub]; omega
 have e3 : (a - x) * (b - y) = a * b - a * y - x * b + x * y := by rw [Int.sub_mul, Int.mul_sub, Int.mul_sub]; omega
 have e4 : (a + x) * (b + y) = a * b + a * y + x * b + x * y := by rw [Int.add_mul, Int.mul_add, Int.mul_add]; omega
 omega
theorem side_bd {a b c : Pt} (ha : -200 ≤ a.1 ∧ a.1 ≤ 200 ∧ -200 ≤ a.2 ∧ a.2 ≤ 200) (hb : -200 ≤ b.1 ∧ b.1 ≤ 200 ∧ -200 ≤ b.2 ∧ b.2 ≤ 200) (hc : -200 ≤ c.1 ∧ c.1 ≤ 200 ∧ -200 ≤ c.2 ∧ c.2 ≤ 200) : -320000 ≤ side a b c ∧ side a b c ≤ 320000 := by
 unfold side
 have h1 := mulB (x := b.1 - a.1) (y := c.2 - a.2) (a := 400) (b := 400) (by omega) (by omega) (by omega) (by omega)
 have h2 := mulB (x := b.2 - a.2) (y := c.1 - a.1) (a := 400) (b := 400) (by omega) (by omega) (by omega) (by omega)
 omega
theorem sqd_bd {a b : Pt} (ha : -200 ≤ a.1 ∧ a.1 ≤ 200 ∧ -200 ≤ a.2 ∧ a.2 ≤ 200) (hb : -200 ≤ b.1 ∧ b.1 ≤ 200 ∧ -200 ≤ b.2 ∧ b.2 ≤ 200) : 0 ≤ sqd a b ∧ sqd a b ≤ 320000 := by
 unfold sqd
 have h1 := mulB (x := a.1 - b.1) (y := a.1 - b.1) (a := 400) (b := 400) (by omega) (by omega) (by omega) (by omega)
 have h2 := mulB (x := a.2 - b.2) (y := a.2 - b.2) (a := 400) (b := 400) (by omega) (by omega) (by omega) (by omega)
 have h3 : 0 ≤ (a.1 - b.1) * (a.1 - b.1) := by
  rcases Int.le_total 0 (a.1 - b.1) with h | h
  ·exact Int.mul_nonneg h h
  ·exact Int.mul_nonneg_of_nonpos_of_nonpos h h
 have h4 : 0 ≤ (a.2 - b.2) * (a.2 - b.2) := by
  rcases Int.le_total 0 (a.2 - b.2) with h | h
  ·exact Int.mul_nonneg h h
  ·exact Int.mul_nonneg_of_nonpos_of_nonpos h h
 omega
structure ZoOk (z : Zo) : Prop where
 n : 0 ≤ z.N ∧ z.N ≤ 102400000000
 d : 0 ≤ z.D ∧ z.D ≤ 320000
theorem zn_ok {L : List Pt} {a b : Pt} (hL : Near L) (h1 : 1 ≤ L.length) (ha : a ∈ L) (hb : b ∈ L) : ZoOk (zn L a b) := by
 have hc : ptAt L (frM (fun k => side a b (ptAt L k)) L.length) ∈ L := List.mem_of_getElem? (ptAt_some (frM_lt _ h1 _ (Nat.le_refl _)))
 have hs := side_bd (hL a ha) (hL b hb) (hL _ hc)
 have hd := sqd_bd (hL a ha) (hL b hb)
 refine ⟨?_, hd⟩
 show 0 ≤ side a b _ * side a b _ ∧ side a b _ * side a b _ ≤ 102400000000
 generalize side a b (ptAt L (frM (fun k => side a b (ptAt L k)) L.length)) = s at *
 have h2 := mulB (x := s) (y := s) (a := 320000) (b := 320000) (by omega) (by omega) (by omega) (by omega)
 have h3 : 0 ≤ s * s := by
  rcases Int.le_total 0 s with h | h
  ·exact Int.mul_nonneg h h
  ·exact Int.mul_nonneg_of_nonpos_of_nonpos h h
 omega
theorem bst_ok {z : Nat → Zo} : ∀ k, (∀ i, i ≤ k → ZoOk (z i)) → ZoOk (bst z k)
 | 0, h => h 0 (Nat.le_refl _)
 | k + 1, h => by
  rw [bst]
  split
  ·exact h (k + 1) (Nat.le_refl _)
  ·exact bst_ok k (fun i hi => h i (by omega))
end Go.Proofs.Ytdcecfgmfmpeeaa
