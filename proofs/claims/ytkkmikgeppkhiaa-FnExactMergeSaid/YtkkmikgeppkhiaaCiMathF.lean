/-
  Walking along a circle of names, in lists.
-/
import Derived.Test.YtkkmikgeppkhiaaNmAt
namespace Go.Proofs.Ytkkmikgeppkhiaa
open Go.ChangeShapes Go.WideShapes Go.ChangeAt Go.RowKit
set_option linter.unusedVariables false
set_option linter.unusedSimpArgs false

/-- who was met in t steps, without the first -/
def vis (s : Nat → Option Nat) (t i : Nat) : List Nat := (List.range t).map fun u => (it s (u + 1) i).getD 0
theorem vis_len (s : Nat → Option Nat) (t i : Nat) : (vis s t i).length = t := by simp [vis]
theorem vis_succ (s : Nat → Option Nat) (t i : Nat) : vis s (t + 1) i = vis s t i ++ [(it s (t + 1) i).getD 0] := by simp [vis, List.range_succ]
/-- t steps can be made, and none comes back to i, nor twice to one -/
structure Way (s : Nat → Option Nat) (n i t x : Nat) : Prop where
  last : it s t i = some x
  xlt : x < n
  away : ∀ u, 0 < u → u ≤ t → it s u i ≠ some i
  nd : (vis s t i).Nodup
  lt : ∀ z ∈ vis s t i, z < n
theorem Way.all {s : Nat → Option Nat} {n i t x : Nat} (h : Way s n i t x) {u : Nat} (hu : u ≤ t) : ∃ z, it s u i = some z := by
  cases e : it s u i with
  | some z => exact ⟨z, rfl⟩
  | none =>
    have := it_none e hu
    rw [h.last] at this
    cases this
theorem Way.start {s : Nat → Option Nat} {n i : Nat} (h : i < n) : Way s n i 0 i := ⟨rfl, h, fun u h1 h2 => by omega, by simp [vis], by simp [vis]⟩
theorem Way.le {s : Nat → Option Nat} {n i t x : Nat} (h : Way s n i t x) : t ≤ n := by
  have := nodup_len _ n h.nd h.lt
  rwa [vis_len] at this
theorem Way.more {s : Nat → Option Nat} {n i t x y : Nat} (h : Way s n i t x) (hs : s x = some y) (hy : y < n) (hi : y ≠ i) (hv : y ∉ vis s t i) : Way s n i (t + 1) y := by
  have e : it s (t + 1) i = some y := by simp [it, h.last, hs]
  refine ⟨e, hy, ?_, ?_, ?_⟩
  · intro u h1 h2
    by_cases g : u = t + 1
    · subst g
      rw [e]
      intro k
      exact hi (Option.some.inj k)
    · exact h.away u h1 (by omega)
  · rw [vis_succ, e, List.nodup_append]
    refine ⟨h.nd, by simp, ?_⟩
    intro a ha b hb
    simp at hb
    subst hb
    intro k
    subst k
    exact hv ha
  · rw [vis_succ, e]
    intro z hz
    rcases List.mem_append.1 hz with g | g
    · exact h.lt z g
    · simp at g; omega
theorem Way.visS {s : Nat → Option Nat} {n i t x y : Nat} (h : Way s n i t x) (hs : s x = some y) : vis s (t + 1) i = vis s t i ++ [y] := by
  rw [vis_succ]
  simp [it, h.last, hs]
theorem Way.pathS {s : Nat → Option Nat} {n i t x y : Nat} (h : Way s n i t x) (hs : s x = some y) : path s (t + 2) i = path s (t + 1) i ++ [y] := by
  show path s (t + 1) i ++ _ = _
  simp [it, h.last, hs]
theorem Way.lastOf {s : Nat → Option Nat} {n i t x : Nat} (h : Way s n i t x) : (path s (t + 1) i)[t]? = some x := by
  show (path s t i ++ _)[t]? = _
  rw [List.getElem?_append_right (by rw [path_len]; omega), path_len, Nat.sub_self, h.last]
  rfl
theorem Way.back {s : Nat → Option Nat} {n i t x : Nat} (h : Way s n i t x) (hs : s x = some i) : Cyc s i (path s (t + 1) i) :=
  .inl ⟨t + 1, ⟨by omega, by simp [it, h.last, hs], fun u h1 h2 => h.away u h1 (by omega)⟩, rfl⟩
/-- the way ends: there is no circle -/
theorem Way.stop {s : Nat → Option Nat} {n i t x : Nat} (h : Way s n i t x) (hs : ∀ y, s x = some y → y ≠ i ∧ y ∈ vis s t i) : Cyc s i [] := by
  refine .inr ⟨?_, rfl⟩
  intro L f
  have key : ∀ L, 0 < L → ∀ z, it s L i = some z → z ∈ vis s t i ∨ (t = 0 ∧ False) := by
    intro L
    induction L with
    | zero => intro h0; omega
    | succ L ih =>
      intro _ z hz
      by_cases hL : L + 1 ≤ t
      · left
        unfold vis
        rw [List.mem_map]
        exact ⟨L, by simp; omega, by simp [hz]⟩
      · by_cases h0 : L = t
        · subst h0
          rw [it, h.last] at hz
          exact .inl (hs z hz).2
        · have hL2 : 0 < L := by omega
          rw [it] at hz
          cases e : it s L i with
          | none => rw [e] at hz; cases hz
          | some a =>
            rw [e] at hz
            rcases ih hL2 a e with g | ⟨_, g⟩
            · unfold vis at g
              rw [List.mem_map] at g
              obtain ⟨u, hu, hg⟩ := g
              have hu' : u < t := by simpa using hu
              obtain ⟨b, hb⟩ := h.all (u := u + 1) (by omega)
              rw [hb] at hg
              simp only [Option.getD_some] at hg
              subst hg
              by_cases hut : u + 1 = t
              · subst hut
                rw [h.last] at hb
                cases hb
                exact .inl (hs z hz).2
              · left
                unfold vis
                rw [List.mem_map]
                refine ⟨u + 1, by simp; omega, ?_⟩
                simp only [it] at hb ⊢
                rw [hb]
                have hz' : s b = some z := hz
                simp [hz']
            · exact g.elim
  rcases key L f.1 i f.2.1 with g | ⟨_, g⟩
  · unfold vis at g
    rw [List.mem_map] at g
    obtain ⟨u, hu, hg⟩ := g
    have hu' : u < t := by simpa using hu
    obtain ⟨b, hb⟩ := h.all (u := u + 1) (by omega)
    rw [hb] at hg
    simp only [Option.getD_some] at hg
    subst hg
    exact h.away (u + 1) (by omega) (by omega) hb
  · exact g
end Go.Proofs.Ytkkmikgeppkhiaa
