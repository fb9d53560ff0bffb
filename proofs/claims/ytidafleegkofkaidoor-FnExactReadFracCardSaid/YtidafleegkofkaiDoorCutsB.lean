/-
  The parts of a fraction's text.
-/
import Derived.Test.YtidafleegkofkaiDoorCuts
namespace Go.Proofs.YtidafleegkofkaiDoor
open Go.ChangeShapes Go.WideShapes Go.ChangeAt Go.RowKit
set_option linter.unusedVariables false
set_option linter.unusedSimpArgs false

theorem cut_skip (s : ByteArray) (k : Nat) : ∀ j, (∀ i, k ≤ i → i < k + j → s.data.toList[i]? ≠ some 47) → cutTo s (k + j) = cutTo s k := by
  intro j
  induction j with
  | zero => intro _; rfl
  | succ j ih =>
    intro h
    show (if s.data.toList[k + j]? = some 47 then ((cutTo s (k + j)).1 ++ [s.extract (cutTo s (k + j)).2 (k + j)], k + j + 1) else cutTo s (k + j)) = _
    rw [if_neg (h (k + j) (by omega) (by omega))]
    exact ih fun i h1 h2 => h i h1 (by omega)
theorem cutAll_no (s : ByteArray) (h : ∀ b ∈ s.data.toList, b ≠ 47) : cutAll s = [s] := by
  have e := cut_skip s 0 s.size (fun i _ _ h2 => h 47 (List.mem_of_getElem? h2) rfl)
  rw [Nat.zero_add] at e
  unfold cutAll
  rw [e]
  show [s.extract 0 s.size] = [s]
  congr 1
  apply ByteArray.ext
  rw [ByteArray.data_extract]
  show s.data.extract 0 s.data.size = s.data
  simp
theorem cutAll_at (s A C : ByteArray) (hs : s = A ++ (⟨#[47]⟩ ++ C)) (hA : ∀ b ∈ A.data.toList, b ≠ 47) (hC : ∀ b ∈ C.data.toList, b ≠ 47) : cutAll s = [A, C] := by
  have hl : s.data.toList = A.data.toList ++ 47 :: C.data.toList := by rw [hs]; simp
  have hn : s.size = A.size + 1 + C.size := by
    show s.data.size = _
    rw [← Array.length_toList, hl, List.length_append, List.length_cons, Array.length_toList, Array.length_toList]
    show A.data.size + (C.data.size + 1) = A.data.size + 1 + C.data.size
    omega
  have la : A.data.toList.length = A.size := by rw [Array.length_toList]; rfl
  have e1 := cut_skip s 0 A.size (fun i _ h1 h2 => by
    rw [hl, List.getElem?_append_left (by omega)] at h2
    exact hA 47 (List.mem_of_getElem? h2) rfl)
  rw [Nat.zero_add] at e1
  have e2 : cutTo s (A.size + 1) = ([s.extract 0 A.size], A.size + 1) := by
    have : s.data.toList[A.size]? = some 47 := by rw [hl, List.getElem?_append_right (by omega), la]; simp
    show (if s.data.toList[A.size]? = some 47 then ((cutTo s A.size).1 ++ [s.extract (cutTo s A.size).2 A.size], A.size + 1) else cutTo s A.size) = _
    rw [if_pos this, e1]
    rfl
  have e3 := cut_skip s (A.size + 1) C.size (fun i h0 h1 h2 => by
    rw [hl, List.getElem?_append_right (by omega), la] at h2
    obtain ⟨j, hj⟩ : ∃ j, i - A.size = j + 1 := ⟨i - A.size - 1, by omega⟩
    rw [hj, List.getElem?_cons_succ] at h2
    exact hC 47 (List.mem_of_getElem? h2) rfl)
  unfold cutAll
  rw [hn, e3, e2, ← hn]
  show [s.extract 0 A.size, s.extract (A.size + 1) s.size] = [A, C]
  rw [hs, ex_left, ex_right]

theorem cutAll_ne (s : ByteArray) : 1 ≤ (cutAll s).length := by unfold cutAll; simp
theorem cutTo_sizes (s : ByteArray) (n : Nat) (hs : s.size ≤ n) : ∀ k, ∀ x ∈ (cutTo s k).1, x.size ≤ n := by
  intro k
  induction k with
  | zero => intro x hx; cases hx
  | succ k ih =>
    intro x hx
    rw [show cutTo s (k + 1) = (if s.data.toList[k]? = some 47 then ((cutTo s k).1 ++ [s.extract (cutTo s k).2 k], k + 1) else cutTo s k) from rfl] at hx
    split at hx
    · rw [List.mem_append, List.mem_singleton] at hx
      rcases hx with hx | rfl
      · exact ih x hx
      · rw [ByteArray.size_extract]; omega
    · exact ih x hx
theorem cutAll_sizes (s : ByteArray) (n : Nat) (hs : s.size ≤ n) : ∀ x ∈ cutAll s, x.size ≤ n := by
  intro x hx
  unfold cutAll at hx
  rw [List.mem_append, List.mem_singleton] at hx
  rcases hx with hx | rfl
  · exact cutTo_sizes s n hs _ x hx
  · rw [ByteArray.size_extract]; omega

/-- the parts of a right fraction's text -/
theorem cut_txt (n d : Int) (T : ByteArray) (hok : frOk n d = true) (hT : txt n d = T) : (d = 1 ∧ cutAll T = [itoaS n]) ∨ (1 < d ∧ cutAll T = [itoaS n, itoaS d]) := by
  obtain ⟨⟨c1, c2⟩, c3, c4⟩ := ok_bd hok
  have sl : ∀ m : Int, ∀ b ∈ (itoaS m).data.toList, b ≠ 47 := fun m b hb => itoa_noslash m b (by simpa [itoaS] using hb)
  subst hT
  by_cases hd : 1 < d
  · exact Or.inr ⟨hd, cutAll_at _ (itoaS n) (itoaS d) (by unfold txt; rw [if_pos hd]) (sl n) (sl d)⟩
  · refine Or.inl ⟨by omega, ?_⟩
    rw [show txt n d = itoaS n from by unfold txt; rw [if_neg hd]]
    exact cutAll_no _ (sl n)

/-- l00Cut, as its caller reads it -/
theorem cut_read (s : ByteArray) (w : World) (hs : s.size ≤ 65536) (N : Nat) (hN : (cutAll s).length = N) (P0 : ByteArray) (h0 : (cutAll s)[0]? = some P0) :
    Calls Tryd.prog 15 #[.string s, .int .u8 47] w fun e w' => ∃ g cap, e = .returned (.slice (some ⟨g, 0, none⟩) N cap) ∧ w'.cell? ⟨g, 0, none⟩ = some (.string P0) ∧ (∀ P1, (cutAll s)[1]? = some P1 → w'.cell? ⟨g, 1, none⟩ = some (.string P1)) ∧ N ≤ cap ∧ g < w'.heap.size ∧ w.heap.size ≤ g ∧ Below w.heap.size w w' := by
  refine (cut_any s w hs).mono ?_
  rintro e w' ⟨v, rfl, hown, hb⟩
  have hne := cutAll_ne s
  rcases hown.2 with ⟨_, h⟩ | ⟨g, cap, cur, rfl, h1, h2, h3, h4, h5, h6⟩
  · omega
  · rw [hN] at hown h3 ⊢
    have c : ∀ j, j < N → w'.cell? ⟨g, j, none⟩ = ((cutAll s).map Value.string)[j]? := fun j hj => hown.cellAt j (by omega)
    refine ⟨g, cap, rfl, ?_, fun P1 hP => ?_, h3, (Array.getElem?_eq_some_iff.1 h2).1, h1, hb⟩
    · rw [c 0 (by omega), List.getElem?_map, h0]; rfl
    · have : 1 < (cutAll s).length := (List.getElem?_eq_some_iff.1 hP).1
      rw [c 1 (by omega), List.getElem?_map, hP]; rfl
end Go.Proofs.YtidafleegkofkaiDoor
