/-
  A way through points, always to the nearest one that is left: as lists of numbers.
-/
import Derived.Test.YtdneepojgklciaaMakes
import Derived.Laws.CopyOwn
namespace Go.Proofs.Ytdneepojgklciaa
set_option linter.unusedVariables false
set_option linter.unusedSimpArgs false

theorem snoc_ind {α : Type} {motive : List α → Prop} (nil : motive []) (snoc : ∀ L i, motive L → motive (L ++ [i])) (L : List α) : motive L := by
  have h : ∀ M : List α, motive M.reverse := by
    intro M
    induction M with
    | nil => exact nil
    | cons x M ih => rw [List.reverse_cons]; exact snoc _ _ ih
  have := h L.reverse
  rwa [List.reverse_reverse] at this
theorem erase_at {α : Type} [BEq α] [LawfulBEq α] (L : List α) : ∀ (j : Nat) (b : α), L[j]? = some b → L.Nodup → L.erase b = L.take j ++ L.drop (j + 1) := by
  induction L with
  | nil => intro j b h; simp at h
  | cons x L ih =>
    intro j b h hn
    obtain ⟨h1, h2⟩ := List.nodup_cons.1 hn
    cases j with
    | zero => obtain rfl : x = b := by simpa using h
              simp
    | succ j =>
      have h' : L[j]? = some b := by simpa using h
      have hm := List.mem_of_getElem? h'
      have hx : ¬ x = b := by rintro rfl; exact h1 hm
      rw [List.erase_cons_tail (by simpa using hx), ih j b h' h2]
      simp
def ab (x : Int) : Int := if x < 0 then -x else x
/-- how far one point is from another -/
def stp (a b : Int × Int) : Int := ab (b.1 - a.1) + ab (b.2 - a.2)
def gd (P : List (Int × Int)) (f : Int × Int) (i : Nat) : Int := stp f ((P[i]?).getD (0, 0))
def pick (g : Nat → Int) : Option Nat → Nat → Option Nat
  | none, i => some i
  | some b, i => if g i < g b then some i else some b
/-- the first of the least -/
def best (g : Nat → Int) (L : List Nat) : Option Nat := L.foldl (pick g) none
theorem best_snoc (g : Nat → Int) (L : List Nat) (i : Nat) : best g (L ++ [i]) = pick g (best g L) i := by simp [best]
theorem pick_some (g : Nat → Int) (o : Option Nat) (i : Nat) : ∃ b, pick g o i = some b ∧ (b = i ∨ o = some b) := by
  cases o with
  | none => exact ⟨i, rfl, .inl rfl⟩
  | some b =>
    by_cases h : g i < g b
    · exact ⟨i, by simp [pick, h], .inl rfl⟩
    · exact ⟨b, by simp [pick, h], .inr rfl⟩
theorem best_mem (g : Nat → Int) (L : List Nat) : ∀ b, best g L = some b → b ∈ L := by
  induction L using snoc_ind with
  | nil => intro b h; simp [best] at h
  | snoc L i ih =>
    intro b h
    rw [best_snoc] at h
    obtain ⟨c, hc, h1⟩ := pick_some g (best g L) i
    rw [hc] at h
    obtain rfl : c = b := by simpa using h
    rcases h1 with rfl | h1
    · simp
    · have := ih c h1; simp [this]
theorem best_ex (g : Nat → Int) (L : List Nat) (h : L ≠ []) : ∃ b, best g L = some b ∧ b ∈ L := by
  have : ∃ b, best g L = some b := by
    induction L using snoc_ind with
    | nil => exact absurd rfl h
    | snoc L i _ =>
      rw [best_snoc]
      obtain ⟨c, hc, _⟩ := pick_some g (best g L) i
      exact ⟨c, hc⟩
  obtain ⟨b, hb⟩ := this
  exact ⟨b, hb, best_mem g L b hb⟩
/-- none is nearer -/
theorem best_le (g : Nat → Int) (L : List Nat) : ∀ b, best g L = some b → ∀ i ∈ L, g b ≤ g i := by
  induction L using snoc_ind with
  | nil => intro b h; simp [best] at h
  | snoc L i ih =>
    intro b h j hj
    rw [best_snoc] at h
    cases ho : best g L with
    | none =>
      rw [ho] at h
      obtain rfl : i = b := by simpa [pick] using h
      have : L = [] := by
        cases L with
        | nil => rfl
        | cons x L =>
          obtain ⟨c, hc, _⟩ := best_ex g (x :: L) (by simp)
          rw [hc] at ho; cases ho
      subst this
      simp at hj; subst hj; exact Int.le_refl _
    | some c =>
      rw [ho] at h
      have hc := ih c ho
      by_cases q : g i < g c
      · obtain rfl : i = b := by simpa [pick, q] using h
        simp at hj
        rcases hj with hj | rfl
        · have := hc j hj; omega
        · exact Int.le_refl _
      · obtain rfl : c = b := by simpa [pick, q] using h
        simp at hj
        rcases hj with hj | rfl
        · exact hc j hj
        · omega
/-- those that are left -/
def lft (n : Nat) (out : List Nat) : List Nat := (List.range n).filter fun i => !out.contains i
theorem lft_nil (n : Nat) : lft n [] = List.range n := by simp [lft]
theorem lft_nodup (n : Nat) (out : List Nat) : (lft n out).Nodup := List.nodup_range.sublist List.filter_sublist
theorem lft_mem {n : Nat} {out : List Nat} {i : Nat} : i ∈ lft n out ↔ i < n ∧ i ∉ out := by simp [lft]
theorem lft_snoc (n : Nat) (out : List Nat) (b : Nat) : lft n (out ++ [b]) = (lft n out).erase b := by
  rw [(lft_nodup n out).erase_eq_filter]
  simp only [lft, List.filter_filter]
  apply List.filter_congr
  intro x _
  by_cases h : x = b
  · simp [h]
  · by_cases h2 : x ∈ out <;> simp [h, h2]
/-- what was told, how long, where one stands -/
def stepW (P : List (Int × Int)) (s : List Nat × Int × (Int × Int)) : List Nat × Int × (Int × Int) :=
  match best (gd P s.2.2) (lft P.length s.1) with
  | none => s
  | some b => (s.1 ++ [b], s.2.1 + gd P s.2.2 b, (P[b]?).getD (0, 0))
def wayN (P : List (Int × Int)) (f : Int × Int) : Nat → List Nat × Int × (Int × Int)
  | 0 => ([], 0, f)
  | k + 1 => stepW P (wayN P f k)
def Rpt (p : Int × Int) : Prop := (-100000 ≤ p.1 ∧ p.1 ≤ 100000) ∧ (-100000 ≤ p.2 ∧ p.2 ≤ 100000)
theorem ab_le {x m : Int} (h1 : -m ≤ x) (h2 : x ≤ m) : 0 ≤ ab x ∧ ab x ≤ m := by unfold ab; split <;> omega
theorem stp_le {a b : Int × Int} (ha : Rpt a) (hb : Rpt b) : 0 ≤ stp a b ∧ stp a b ≤ 400000 := by
  unfold Rpt at *
  have h1 := ab_le (x := b.1 - a.1) (m := 200000) (by omega) (by omega)
  have h2 := ab_le (x := b.2 - a.2) (m := 200000) (by omega) (by omega)
  unfold stp; omega
theorem rpt_at {P : List (Int × Int)} (hP : ∀ p ∈ P, Rpt p) (i : Nat) : Rpt ((P[i]?).getD (0, 0)) := by
  cases h : P[i]? with
  | none => exact ⟨⟨by decide, by decide⟩, ⟨by decide, by decide⟩⟩
  | some q => exact hP q (List.mem_of_getElem? h)
structure WayOk (P : List (Int × Int)) (k : Nat) (s : List Nat × Int × (Int × Int)) : Prop where
  len : s.1.length = k
  nodup : s.1.Nodup
  lt : ∀ i ∈ s.1, i < P.length
  left : (lft P.length s.1).length = P.length - k
  pt : Rpt s.2.2
  sum0 : 0 ≤ s.2.1
  sum1 : s.2.1 ≤ 400000 * (k : Int)
theorem way_step {P : List (Int × Int)} (hP : ∀ p ∈ P, Rpt p) {k : Nat} (hk : k < P.length) {s : List Nat × Int × (Int × Int)} (h : WayOk P k s) :
    ∃ b, best (gd P s.2.2) (lft P.length s.1) = some b ∧ b ∈ lft P.length s.1 ∧ stepW P s = (s.1 ++ [b], s.2.1 + gd P s.2.2 b, (P[b]?).getD (0, 0)) ∧ WayOk P (k + 1) (stepW P s) := by
  obtain ⟨b, hb, hm⟩ := best_ex (gd P s.2.2) (lft P.length s.1) (by intro e; have := h.left; rw [e] at this; simp at this; omega)
  have e : stepW P s = (s.1 ++ [b], s.2.1 + gd P s.2.2 b, (P[b]?).getD (0, 0)) := by unfold stepW; rw [hb]
  obtain ⟨hbn, hbo⟩ := lft_mem.1 hm
  have hs := stp_le h.pt (rpt_at hP b)
  refine ⟨b, hb, hm, e, ?_⟩
  rw [e]
  refine ⟨by simp [h.len], ?_, ?_, ?_, rpt_at hP b, ?_, ?_⟩
  · rw [List.nodup_append]
    refine ⟨h.nodup, by simp, ?_⟩
    intro x hx y hy
    simp at hy
    subst hy
    intro e; subst e; exact hbo hx
  · intro i hi
    simp at hi
    rcases hi with hi | rfl
    · exact h.lt i hi
    · exact hbn
  · show (lft P.length (s.1 ++ [b])).length = _
    rw [lft_snoc, List.length_erase_of_mem hm, h.left]; omega
  · have h1 := h.sum0; show 0 ≤ s.2.1 + stp s.2.2 _; omega
  · have h1 := h.sum1; show s.2.1 + stp s.2.2 _ ≤ _; push_cast; omega
theorem way_ok {P : List (Int × Int)} {f : Int × Int} (hP : ∀ p ∈ P, Rpt p) (hf : Rpt f) : ∀ k, k ≤ P.length → WayOk P k (wayN P f k)
  | 0, _ => ⟨rfl, by simp [wayN], by simp [wayN], by simp [wayN, lft_nil], hf, Int.le_refl _, by simp [wayN]⟩
  | k + 1, h => by
    obtain ⟨b, _, _, _, h4⟩ := way_step hP (Nat.lt_of_succ_le h) (way_ok hP hf k (Nat.le_of_lt h))
    exact h4
/-- the model's looking through all -/
theorem best_range (g : Nat → Int) (q : Nat → Bool) (i : Nat) : best g ((List.range (i + 1)).filter q) = if q i = true then pick g (best g ((List.range i).filter q)) i else best g ((List.range i).filter q) := by
  rw [List.range_succ, List.filter_append]
  by_cases h : q i = true
  · rw [if_pos h, ← best_snoc]; simp [h]
  · rw [if_neg h]; simp [h]
/-- the program's looking through those that are left -/
theorem best_take (g : Nat → Int) (L : List Nat) (k x : Nat) (h : L[k]? = some x) : best g (L.take (k + 1)) = pick g (best g (L.take k)) x := by
  rw [List.take_add_one, h]
  exact best_snoc g (L.take k) x
/-- the row of those that were told and those that are left, turned -/
theorem way_row {α : Type} [BEq α] [LawfulBEq α] (A L : List α) (i j : Nat) (b : α) (hi : A.length = i) (hj : L[j]? = some b) (hn : L.Nodup) :
    (splice (A ++ L) (i + 1) (L.take j)).set i b = A ++ [b] ++ L.erase b := by
  have hjl : j < L.length := (List.getElem?_eq_some_iff.1 hj).1
  have hb : L[j] = b := (List.getElem?_eq_some_iff.1 hj).2
  have e1 : L.erase b = L.take j ++ L.drop (j + 1) := erase_at L j b hj hn
  rw [e1]
  subst hi
  have hl : (L.take j).length = j := by simp; omega
  unfold splice
  rw [hl]
  have d1 : (A ++ L).drop (A.length + 1 + j) = L.drop (j + 1) := by
    rw [List.drop_append, List.drop_of_length_le (by omega)]
    simp
    congr 1; omega
  rw [d1]
  cases L with
  | nil => simp at hjl
  | cons x L =>
    have t1 : (A ++ x :: L).take (A.length + 1) = A ++ [x] := by rw [List.take_append, List.take_of_length_le (by omega)]; simp
    rw [t1]
    simp
end Go.Proofs.Ytdneepojgklciaa
