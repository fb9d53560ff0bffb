/-
  The shared links of a drawn chain.
-/
import Derived.Test.YtmhdodecofpchaaShFact
import Derived.Test.YtmhdodecofpchaaSoP
import Derived.Test.YtmhdodecofpchaaSoM
namespace Go.Proofs.Ytmhdodecofpchaa
open Go.ChangeShapes Go.WideShapes Go.ChangeAt Go.RowKit
set_option linter.unusedVariables false
set_option linter.unusedSimpArgs false

theorem putTo_full {ls : List Lk} {i : Nat} {l : Lk} (sh : List Int) (h : ls[i]? = some l) : (putTo ls sh ls.length)[i]? = some { l with pl := gt sh (2 * i), mi := gt sh (2 * i + 1) } := by
  have hi : i < ls.length := (List.getElem?_eq_some_iff.1 h).1
  unfold putTo
  rw [List.getElem?_mapIdx, h]
  simp only [Option.map_some]
  rw [if_pos hi]
theorem wts_put (ls : List Lk) (sh : List Int) (hl : sh.length = 2 * ls.length) : wts (putTo ls sh ls.length) = sh := by
  apply List.ext_getElem?
  intro j
  by_cases hj : j < 2 * ls.length
  · obtain ⟨l, hx⟩ : ∃ l, ls[j / 2]? = some l := ⟨_, List.getElem?_eq_getElem (by omega)⟩
    obtain ⟨h1, h2⟩ := wts_at (putTo_full sh hx)
    rcases (by omega : j % 2 = 0 ∨ j % 2 = 1) with e | e
    · rw [show 2 * (j / 2) = j by omega] at h1; rw [h1, gtk_some (by omega)]
    · rw [show 2 * (j / 2) + 1 = j by omega] at h2; rw [h2, gtk_some (by omega)]
  · rw [List.getElem?_eq_none (by rw [wts_len, putTo_len]; omega), List.getElem?_eq_none (by omega)]
theorem wts_take_le {F : List Lk} (h : ∀ x ∈ wts F, 0 ≤ x) (i : Nat) : 0 ≤ sumL (wts (F.take i)) ∧ sumL (wts (F.take i)) ≤ sumL (wts F) := by
  have e : wts F = wts (F.take i) ++ wts (F.drop i) := by rw [← wts_app, List.take_append_drop]
  have h1 : ∀ x ∈ wts (F.take i), 0 ≤ x := fun x hx => h x (by rw [e]; simp [hx])
  have h2 : ∀ x ∈ wts (F.drop i), 0 ≤ x := fun x hx => h x (by rw [e]; simp [hx])
  have := sumL_ge h1
  have := sumL_ge h2
  rw [e, sumL_app]
  omega
/-- all that is asked of a shared chain -/
structure Shd (T W : Int) (ls F : List Lk) : Prop where
  sum : sumL (wts F) = T
  nn : ∀ x ∈ wts F, 0 ≤ x
  each : ∀ (i : Nat) (l : Lk), ls[i]? = some l → ∃ y z : Int, F[i]? = some { l with pl := y, mi := z } ∧ (y * W - T * l.pl < W ∧ -W < y * W - T * l.pl ∧ (l.pl = 0 → y = 0)) ∧ (z * W - T * l.mi < W ∧ -W < z * W - T * l.mi ∧ (l.mi = 0 → z = 0))
theorem so_shd {T : Int} {ls : List Lk} (hr : Right ls) (hT : 0 ≤ T) (hW : 0 < sumL (wts ls)) : Shd T (sumL (wts ls)) ls (putTo ls (soSh T ls) ls.length) := by
  have hmem := wts_mem hr.2.2.1
  obtain ⟨h1, h2⟩ := shr_facts (T := T) hW (fun x hx => (hmem x hx).1) (ranked_ranks (rs T (sumL (wts ls)) (wts ls)))
  have hlen : (soSh T ls).length = 2 * ls.length := by unfold soSh; rw [shr_len, wts_len]
  have hw := wts_put ls (soSh T ls) hlen
  refine ⟨by rw [hw]; exact h1, ?_, ?_⟩
  · rw [hw]
    intro x hx
    obtain ⟨i, hi⟩ := List.getElem?_of_mem hx
    have hil : i < (soSh T ls).length := (List.getElem?_eq_some_iff.1 hi).1
    obtain ⟨y, hy⟩ : ∃ y, (wts ls)[i]? = some y := ⟨_, List.getElem?_eq_getElem (by rw [wts_len]; omega)⟩
    have h3 := h2 i y hy
    have e : gt (shr T (wts ls) (ranks (rs T (sumL (wts ls)) (wts ls)))) i = x := by
      have := gtk_some (a := soSh T ls) hil
      rw [hi] at this
      exact (Option.some.inj this).symm
    rw [e] at h3
    have hy0 := (hmem y (List.mem_of_getElem? hy)).1
    have hTy := Int.mul_nonneg hT hy0
    rcases (by omega : 0 ≤ x ∨ x ≤ -1) with h4 | h4
    · exact h4
    · have := Int.mul_le_mul_of_nonneg_right h4 (Int.le_of_lt hW)
      omega
  · intro i l hx
    obtain ⟨a1, a2⟩ := wts_at hx
    exact ⟨_, _, putTo_full _ hx, h2 _ _ a1, h2 _ _ a2⟩
end Go.Proofs.Ytmhdodecofpchaa
