/-
  slices.Sort of a row of numbers that the callers made.
-/
import Derived.Test.YtoidhlackoigkaaSoL
import Derived.Shelf.Slices.In.SortNone
import Derived.Test.YtoidhlackoigkaaRowX
namespace Go.Proofs.Ytoidhlackoigkaa
open Go.ChangeShapes Go.WideShapes Go.ChangeAt Go.RowKit
open Go.Sort (Holds grow putRow)
set_option linter.unusedVariables false
set_option linter.unusedSimpArgs false

/-- the same numbers, rising -/
def srt (L : List Int) : List Int := L.mergeSort fun x y => decide (x ≤ y)
theorem srt_len (L : List Int) : (srt L).length = L.length := List.length_mergeSort L
theorem srt_perm (L : List Int) : (srt L).Perm L := List.mergeSort_perm _ _
theorem srt_rise (L : List Int) : (srt L).Pairwise (· ≤ ·) := by
  have := List.pairwise_mergeSort (le := fun x y : Int => decide (x ≤ y)) (fun a b c h1 h2 => by simp at *; omega) (fun a b => by simp; omega) L
  exact this.imp (fun h => by simpa using h)
theorem Row.puts {w : World} {B t g n cap : Nat} {L : List Int} (h : Row w B t 1 (.slice (some ⟨g, 0, none⟩) n cap) n L) (M : List Int) (hM : M.length = n) : Row (putRow (Value.int .i64) w g 0 M.toArray) B t 1 (.slice (some ⟨g, 0, none⟩) n cap) n M := by
  rcases h.2 with ⟨h1, _⟩ | ⟨g', cap', cur, hv, hB, hh, hn, hm, hs, ht⟩
  · cases h1
  · cases hv
    have hnk : n ≤ cur.size := by rw [hs]; omega
    refine ⟨by simpa using hM, .inr ⟨g, cap, Sort.putCells (Value.int .i64) 0 M.toArray cur, rfl, hB, ?_, hn, hm, by simp [Sort.putCells, hs], ?_⟩⟩
    · show (w.heap.modify g _)[g]? = _
      rw [Array.getElem?_modify, if_pos rfl, hh]
      rfl
    · apply List.ext_getElem?
      intro j
      rw [List.getElem?_take]
      by_cases hj : j < n * 1
      · rw [if_pos hj, Array.getElem?_toList]
        have hj' : j < n := by omega
        have hc : cur[j]? = some cur[j] := Array.getElem?_eq_getElem (by omega)
        simp only [Sort.putCells, Array.getElem?_mapIdx, hc, Option.map_some]
        rw [if_pos ⟨Nat.zero_le _, by simp [hM]; omega⟩]
        rw [List.getElem?_map, List.getElem?_eq_getElem (by omega)]
        simp [hM, hj']
      · rw [if_neg hj, List.getElem?_eq_none (by simp [hM]; omega)]
theorem sortR_any (B : Nat) (v : Value) (L : List Int) (w : World) (hB : B ≤ w.heap.size) (hn : L.length ≤ 4096) (hr : Row w B 3 1 v L.length L) :
    Calls Try.prog 55 #[v] w fun e w' => e = .returned (.tuple #[]) ∧ Row w' B 3 1 v L.length (srt L) ∧ Below B w w' ∧ w.heap.size ≤ w'.heap.size ∧ (∀ k, k < w.heap.size → v.ownBlock ≠ some k → w'.heap[k]? = w.heap[k]?) := by
  by_cases hv : v = .slice none 0 0
  · subst hv
    have hl : L.length = 0 := by obtain ⟨u, cap, hv, _⟩ := hr.form; injection hv with _ h2 _; exact h2.symm
    have hL : L = [] := List.length_eq_zero_iff.1 hl
    subst hL
    refine (Any.slices_Sort_int_none Try.lays189 none 0 w).mono ?_
    rintro e w' ⟨rfl, rfl⟩
    exact ⟨rfl, by simpa [srt] using hr, Below.refl _ _, Nat.le_refl _, fun _ _ _ => rfl⟩
  · obtain ⟨g, cap, rfl, hg1, hg2, hc1, hc2⟩ := hr.sm hv
    refine (Try.slices_Sort_int g 0 cap L w (fun j hj => ?_) hg2 (by omega)).mono ?_
    · have hj' : j < L.length := by simpa using hj
      refine ⟨?_, hr.frz _⟩
      rw [Nat.zero_add, hr.cellAt (List.getElem?_eq_getElem hj'), getElem!_pos L.toArray j hj]
      simp
    · rintro e w' ⟨rfl, n, os, rfl⟩
      have hsz : (putRow (Value.int .i64) (Sort.ahead w n) g 0 (srt L).toArray).heap.size = w.heap.size := by simp [putRow, Sort.mapBlock, Sort.ahead]
      have hold : ∀ k, k < w.heap.size → k ≠ g → (grow (putRow (Value.int .i64) (Sort.ahead w n) g 0 (srt L).toArray) os).heap[k]? = w.heap[k]? := by
        intro k hk hkg
        show (_ ++ os)[k]? = _
        rw [Array.getElem?_append_left (by rw [hsz]; exact hk)]
        show (w.heap.modify g _)[k]? = _
        rw [Array.getElem?_modify, if_neg (by omega)]
      have h1 : Row (putRow (Value.int .i64) (Sort.ahead w n) g 0 (srt L).toArray) B 3 1 (.slice (some ⟨g, 0, none⟩) L.length cap) L.length (srt L) := Row.puts (w := Sort.ahead w n) hr (srt L) (srt_len L)
      refine ⟨rfl, ?_, ⟨rfl, rfl, rfl, ?_, fun k hk => hold k (by omega) (by omega)⟩, ?_, fun k hk hkg => hold k hk (fun e => hkg (by rw [e]; rfl))⟩
      · refine h1.kept' (fun b hb => ?_)
        have hbl := (World.ownsRow.lt h1 b hb).2
        show (_ ++ os)[b]? = _
        rw [Array.getElem?_append_left (by exact hbl)]
        rfl
      all_goals
        show w.heap.size ≤ (_ ++ os).size
        rw [Array.size_append]
        have := hsz
        unfold srt at this
        omega
end Go.Proofs.Ytoidhlackoigkaa
