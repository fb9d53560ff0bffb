/-
  Levels: a row that rises, without its runs.
-/
import Derived.Test.YtoidhlackoigkaaSoRow
namespace Go.Proofs.Ytoidhlackoigkaa
open Go.ChangeShapes Go.WideShapes Go.ChangeAt Go.RowKit
open Go.Sort (Holds grow putRow)
set_option linter.unusedVariables false
set_option linter.unusedSimpArgs false

theorem comp_both (zs : List Int) : ∀ m, m ≤ zs.length → ((Lib.compactUpTo zs.toArray m).Sublist (zs.take m)) ∧ ∀ x, x ∈ zs.take m → x ∈ Lib.compactUpTo zs.toArray m := by
  intro m
  induction m with
  | zero => intro _; exact ⟨by simp [Lib.compactUpTo], by simp⟩
  | succ m ih =>
    intro hm
    obtain ⟨h1, h2⟩ := ih (by omega)
    have hx : zs[m]? = some (zs[m]'(by omega)) := List.getElem?_eq_getElem _
    have hd : zs.toArray[m]! = zs[m]'(by omega) := by simp [hx]
    rw [Lib.compactUpTo_succ, List.take_add_one, hx, hd]
    simp only [Option.toList_some]
    by_cases hk : Lib.keeps zs.toArray m = true
    · rw [if_pos hk]
      refine ⟨h1.append (List.Sublist.refl _), fun x hx => ?_⟩
      rcases List.mem_append.1 hx with h | h
      · exact List.mem_append.2 (Or.inl (h2 x h))
      · exact List.mem_append.2 (Or.inr h)
    · rw [if_neg hk, List.append_nil]
      refine ⟨h1.trans (List.sublist_append_left _ _), fun x hx => ?_⟩
      rcases List.mem_append.1 hx with h | h
      · exact h2 x h
      · apply h2
        simp at h
        subst h
        simp only [Lib.keeps, decide_eq_true_eq, not_or, Decidable.not_not] at hk
        obtain ⟨h0, he⟩ := hk
        have hx1 : zs[m - 1]? = some (zs[m - 1]'(by omega)) := List.getElem?_eq_getElem _
        have hd1 : zs.toArray[m - 1]! = zs[m - 1]'(by omega) := by simp [hx1]
        rw [hd, hd1] at he
        rw [he]
        rw [List.mem_take_iff_getElem]
        exact ⟨m - 1, by omega, rfl⟩
theorem comp_mem (zs : List Int) (x : Int) : x ∈ Lib.compact zs ↔ x ∈ zs := by
  obtain ⟨h1, h2⟩ := comp_both zs zs.length (Nat.le_refl _)
  rw [List.take_length] at h1 h2
  exact ⟨fun h => h1.subset h, h2 x⟩
theorem comp_rise (zs : List Int) (h : zs.Pairwise (· ≤ ·)) : (Lib.compact zs).Pairwise (· ≤ ·) := by
  obtain ⟨h1, h2⟩ := comp_both zs zs.length (Nat.le_refl _)
  rw [List.take_length] at h1
  exact h.sublist h1
theorem comp_len (zs : List Int) : (Lib.compact zs).length ≤ zs.length := by
  obtain ⟨h1, h2⟩ := comp_both zs zs.length (Nat.le_refl _)
  rw [List.take_length] at h1
  exact h1.length_le
theorem compR_any (B g cap : Nat) (L : List Int) (w : World) (hB : B ≤ w.heap.size) (hgB : B ≤ g) (hn : L.length ≤ 4097) (hr : Row w B 3 1 (.slice (some ⟨g, 0, none⟩) L.length cap) L.length L) :
    Calls Try.prog 56 #[.slice (some ⟨g, 0, none⟩) L.length cap] w fun e w' => e = .returned (.slice (some ⟨g, 0, none⟩) (Lib.compact L).length cap) ∧ IntsAt w' g 0 (Lib.compact L) ∧ g < w'.heap.size ∧ Below B w w' := by
  obtain ⟨_, _, hvg, _, hg2, hc1, hc2⟩ := hr.sm (by simp)
  cases hvg
  refine (Try.slices_Compact_int g 0 cap L w (fun j hj => ?_) (by omega) hc1).mono ?_
  · have hj' : j < L.length := by simpa using hj
    refine ⟨?_, hr.frz _⟩
    rw [Nat.zero_add, hr.cellAt (List.getElem?_eq_getElem hj'), getElem!_pos L.toArray j hj]
    simp
  · rintro e w' ⟨rfl, q, rfl⟩
    have hM : (Lib.compact L ++ List.replicate (L.length - (Lib.compact L).length) 0).length = L.length := by
      have := comp_len L
      rw [List.length_append, List.length_replicate]; omega
    have h1 := Row.puts (w := Sort.ahead w q) (B := B) (t := 3) (g := g) (n := L.length) (cap := cap) (L := L) hr _ hM
    refine ⟨rfl, fun j x hj => h1.ints j x ?_, ?_, ⟨rfl, rfl, rfl, ?_, fun k hk => ?_⟩⟩
    · have hl := (List.getElem?_eq_some_iff.1 hj).1
      rw [List.getElem?_append_left hl]; exact hj
    · simp [putRow, Sort.mapBlock, Sort.ahead]; exact hg2
    · simp [putRow, Sort.mapBlock, Sort.ahead]
    · show (w.heap.modify g _)[k]? = _
      rw [Array.getElem?_modify, if_neg (by omega)]
end Go.Proofs.Ytoidhlackoigkaa
