/-
  A map from names to places: as many keys as there are names.
-/
import Derived.Test.YtmhdodecofpchaaChMath
import Derived.Maps.OwnSet
namespace Go.Proofs.Ytmhdodecofpchaa
open Go.ChangeShapes Go.WideShapes Go.ChangeAt Go.RowKit Go.Maps
set_option linter.unusedVariables false
set_option linter.unusedSimpArgs false

def keyL (s : ByteArray) : Lit := .string s.data.toList
theorem keyL_inj {s t : ByteArray} (h : keyL s = keyL t) : s = t := by
  unfold keyL at h
  cases s; cases t
  simp only [Lit.string.injEq] at h
  rw [Array.toList_inj.1 h]
def Dn (ls : List Lk) : Nat → DataW Unit
  | 0 => .map []
  | k + 1 => (Dn ls k).put (keyL ((ls[k]?).getD lk0).nm) (.lit (.int .i64 (k : Int)))
theorem keyL_key (s : ByteArray) : WideAt.IsKeyLit (keyL s) := by
  unfold keyL
  exact trivial
theorem Dn_tidy (ls : List Lk) : ∀ k, Tidy (Dn ls k)
  | 0 => tidy_empty
  | k + 1 => (Dn_tidy ls k).put (keyL_key _) _
theorem Dn_has (ls : List Lk) (s : ByteArray) : ∀ k, k ≤ ls.length → (has (Dn ls k) (keyL s) = true ↔ s ∈ names (ls.take k)) := by
  intro k
  induction k with
  | zero => intro _; simp [Dn, has, names]
  | succ k ih =>
    intro hk
    have hx : ls[k]? = some ls[k] := List.getElem?_eq_getElem (by omega)
    rw [names_take_succ hx, List.mem_append, List.mem_singleton, ← ih (by omega)]
    show has ((Dn ls k).put (keyL ((ls[k]?).getD lk0).nm) _) (keyL s) = true ↔ _
    rw [hx, Option.getD_some]
    by_cases e : s = ls[k].nm
    · subst e
      rw [has_put_same (Dn_tidy ls k).isMap (keyL_key _)]
      simp
    · rw [has_put_other (fun h => e (keyL_inj h))]
      simp [e]
theorem Dn_size (ls : List Lk) : ∀ k, k ≤ ls.length → Maps.size (Dn ls k) ≤ k ∧ (Maps.size (Dn ls k) = k ↔ (names (ls.take k)).Nodup) := by
  intro k
  induction k with
  | zero => intro _; simp [Dn, Maps.size, names]
  | succ k ih =>
    intro hk
    have hx : ls[k]? = some ls[k] := List.getElem?_eq_getElem (by omega)
    obtain ⟨i1, i2⟩ := ih (by omega)
    have hh := Dn_has ls ls[k].nm k (by omega)
    have e : Maps.size (Dn ls (k + 1)) = if has (Dn ls k) (keyL ls[k].nm) then Maps.size (Dn ls k) else Maps.size (Dn ls k) + 1 := by
      show Maps.size ((Dn ls k).put (keyL ((ls[k]?).getD lk0).nm) _) = _
      rw [hx, Option.getD_some]
      exact size_put (Dn_tidy ls k) _
    rw [e, names_take_succ hx]
    by_cases hm : has (Dn ls k) (keyL ls[k].nm) = true
    · rw [if_pos hm]
      refine ⟨by omega, fun h => by omega, fun h => ?_⟩
      exact absurd rfl ((List.nodup_append.1 h).2.2 _ (hh.1 hm) _ (by simp))
    · rw [if_neg hm]
      refine ⟨by omega, fun h => ?_, fun h => ?_⟩
      · rw [List.nodup_append]
        refine ⟨i2.1 (by omega), by simp, ?_⟩
        intro a ha b hb he
        simp only [List.mem_singleton] at hb
        rw [he, hb] at ha
        exact hm (hh.2 ha)
      · have := i2.2 (List.nodup_append.1 h).1
        omega
theorem Dn_lt (ls : List Lk) : (decide ((Maps.size (Dn ls ls.length) : Int) < (ls.length : Int))) = decide (¬ (names ls).Nodup) := by
  obtain ⟨h1, h2⟩ := Dn_size ls ls.length (Nat.le_refl _)
  rw [List.take_length] at h2
  rw [Bool.eq_iff_iff, decide_eq_true_eq, decide_eq_true_eq, ← h2]
  omega
/-- some link is not right -/
def badB (ls : List Lk) : Bool := ls.any fun l => !lkOk l
theorem badB_true {ls : List Lk} (h : badB ls = true) : ¬ Right ls := by
  intro hr
  unfold badB at h
  rw [List.any_eq_true] at h
  obtain ⟨l, hl, h1⟩ := h
  have := (lkOk_iff l).2 (hr.2.2.1 l hl)
  rw [this] at h1
  cases h1
theorem badB_false {ls : List Lk} (h : badB ls = false) : ∀ l ∈ ls, LOk l := by
  intro l hl
  unfold badB at h
  rw [List.any_eq_false] at h
  have := h l hl
  exact (lkOk_iff l).1 (by simpa using this)
end Go.Proofs.Ytmhdodecofpchaa
