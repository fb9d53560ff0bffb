/-
  What a shared chain is: its links with the shares as tolerances.
-/
import Derived.Test.YtmhdodecofpchaaShMath
import Derived.Test.YtmhdodecofpchaaLkRow
namespace Go.Proofs.Ytmhdodecofpchaa
open Go.ChangeShapes Go.WideShapes Go.ChangeAt Go.RowKit
set_option linter.unusedVariables false
set_option linter.unusedSimpArgs false

/-- the tolerances, one after another -/
def wts : List Lk → List Int
  | [] => []
  | l :: ls => l.pl :: l.mi :: wts ls
theorem wts_len (ls : List Lk) : (wts ls).length = 2 * ls.length := by
  induction ls with
  | nil => rfl
  | cons l ls ih => simp only [wts, List.length_cons, ih]; omega
theorem wts_app (a b : List Lk) : wts (a ++ b) = wts a ++ wts b := by
  induction a with
  | nil => rfl
  | cons l a ih => simp only [List.cons_append, wts, ih]
theorem wts_succ {ls : List Lk} {i : Nat} {l : Lk} (h : ls[i]? = some l) : wts (ls.take (i + 1)) = wts (ls.take i) ++ [l.pl, l.mi] := by
  rw [List.take_add_one, h, wts_app]; rfl
theorem wts_mem {ls : List Lk} (h : ∀ l ∈ ls, LOk l) : ∀ x ∈ wts ls, 0 ≤ x ∧ x ≤ 100000 := by
  induction ls with
  | nil => intro x hx; cases hx
  | cons l ls ih =>
    intro x hx
    have hl := h l (by simp)
    obtain ⟨_, _, _, _, h4, h5, h6, h7⟩ := hl
    rcases List.mem_cons.1 hx with e | hx
    · rw [e]; exact ⟨h4, h5⟩
    · rcases List.mem_cons.1 hx with e | hx
      · rw [e]; exact ⟨h6, h7⟩
      · exact ih (fun y hy => h y (by simp [hy])) x hx
/-- links whose first i have their shares -/
def putTo (ls : List Lk) (sh : List Int) (i : Nat) : List Lk := ls.mapIdx fun j l => if j < i then { l with pl := gt sh (2 * j), mi := gt sh (2 * j + 1) } else l
theorem putTo_len (ls : List Lk) (sh : List Int) (i : Nat) : (putTo ls sh i).length = ls.length := by simp [putTo]
theorem putTo_zero (ls : List Lk) (sh : List Int) : putTo ls sh 0 = ls := by
  unfold putTo
  apply List.ext_getElem?
  intro j
  rw [List.getElem?_mapIdx]
  cases ls[j]? <;> simp
theorem putTo_at {ls : List Lk} {i : Nat} {l : Lk} (sh : List Int) (h : ls[i]? = some l) : (putTo ls sh i)[i]? = some l := by
  unfold putTo
  rw [List.getElem?_mapIdx, h]
  simp
theorem putTo_step {ls : List Lk} {i : Nat} {l : Lk} (sh : List Int) (h : ls[i]? = some l) : (putTo ls sh i).set i { l with pl := gt sh (2 * i), mi := gt sh (2 * i + 1) } = putTo ls sh (i + 1) := by
  have hi : i < ls.length := (List.getElem?_eq_some_iff.1 h).1
  apply List.ext_getElem?
  intro j
  rw [List.getElem?_set]
  by_cases e : i = j
  · subst e
    rw [if_pos rfl, if_pos (by rw [putTo_len]; exact hi)]
    unfold putTo
    rw [List.getElem?_mapIdx, h]
    simp
  · rw [if_neg e]
    unfold putTo
    rw [List.getElem?_mapIdx, List.getElem?_mapIdx]
    cases hx : ls[j]? with
    | none => rfl
    | some y =>
      simp only [Option.map_some]
      by_cases h1 : j < i
      · rw [if_pos h1, if_pos (by omega)]
      · rw [if_neg h1, if_neg (by omega)]
/-- the ranks of remainders -/
def ranks (R : List Int) : List Int := (srtR (cmR (remOf R)) [] (marks 0 R.length)).reverse
theorem ranked_ranks (R : List Int) : Ranked R (ranks R) := srt_sorted (marks 0 R.length) (marks_lt R.length)
/-- the answer: the links, and the code -/
noncomputable def soC (T : Int) (ls : List Lk) : Int := if lkCode ls ≠ 0 then lkCode ls else if ¬ (0 ≤ T ∧ T ≤ 100000) then 5 else if sumL (wts ls) = 0 then 11 else 0
noncomputable def soSh (T : Int) (ls : List Lk) : List Int := shr T (wts ls) (ranks (rs T (sumL (wts ls)) (wts ls)))
noncomputable def soL (T : Int) (ls : List Lk) : List Lk := if soC T ls = 0 then putTo ls (soSh T ls) ls.length else []
/-- where an answer's links lie -/
def OutAt (w : World) (B : Nat) (v : Value) (ls : List Lk) : Prop := ∃ (u : Option Addr) (cap : Nat), v = .slice u ls.length cap ∧ (ls ≠ [] → ∃ g, u = some ⟨g, 0, none⟩ ∧ LRow w B g ls.length cap ls)
theorem out_none (w : World) (B : Nat) : OutAt w B (.slice none 0 0) [] := ⟨none, 0, rfl, fun h => absurd rfl h⟩
theorem out_empty (w : World) (B : Nat) (u : Option Addr) (cap : Nat) : OutAt w B (.slice u 0 cap) [] := ⟨u, cap, rfl, fun h => absurd rfl h⟩
theorem LRow.out {w : World} {B g n cap : Nat} {ls : List Lk} (h : LRow w B g n cap ls) : OutAt w B (.slice (some ⟨g, 0, none⟩) n cap) ls := ⟨_, cap, by rw [h.len], fun _ => ⟨g, rfl, by rw [h.len]; exact h⟩⟩
theorem soC_right {T : Int} {ls : List Lk} (h : lkCode ls = 0) : Right ls := by
  unfold lkCode at h
  split at h
  · omega
  · split at h
    · rename_i h1; exact of_rightB h1
    · omega
theorem wts_at {ls : List Lk} {i : Nat} {l : Lk} (h : ls[i]? = some l) : (wts ls)[2 * i]? = some l.pl ∧ (wts ls)[2 * i + 1]? = some l.mi := by
  induction ls generalizing i with
  | nil => cases h
  | cons x ls ih =>
    cases i with
    | zero =>
      simp only [List.getElem?_cons_zero, Option.some.injEq] at h
      subst h
      exact ⟨rfl, rfl⟩
    | succ i =>
      have := ih (i := i) (by simpa using h)
      rw [show 2 * (i + 1) = 2 * i + 2 by omega]
      exact this
end Go.Proofs.Ytmhdodecofpchaa
