/-
  The outline of the columns above a height, in lists: where it begins, which corners it has, when it is there again.
-/
import Derived.Test.YtjhldjojkaphkaaCtMath
import Derived.Test.YtjhldjojkaphkaaMlMath
namespace Go.Proofs.Ytjhldjojkaphkaa
set_option linter.unusedVariables false
set_option linter.unusedSimpArgs false

/-- a column above z -/
def Ab (W H : Nat) (T : List Int) (z : Int) (x y : Int) : Bool := decide (0 ≤ x ∧ x < (W : Int) ∧ 0 ≤ y ∧ y < (H : Int)) && decide (z < tp T (y.toNat * W + x.toNat))
theorem Ab_in {W H : Nat} {T : List Int} {z : Int} (x y : Int) (h : Ab W H T z x y = true) : 0 ≤ x ∧ x < (W : Int) ∧ 0 ≤ y ∧ y < (H : Int) := by
  unfold Ab at h
  rw [Bool.and_eq_true, decide_eq_true_eq] at h
  exact h.1
theorem Ab_at {W H : Nat} {T : List Int} {z : Int} {x y : Nat} (hx : x < W) (hy : y < H) : Ab W H T z (x : Int) (y : Int) = decide (z < tp T (y * W + x)) := by
  unfold Ab
  rw [decide_eq_true (show (0 : Int) ≤ (x : Int) ∧ (x : Int) < (W : Int) ∧ (0 : Int) ≤ (y : Int) ∧ (y : Int) < (H : Int) by omega)]
  simp
theorem Ab_out {W H : Nat} {T : List Int} {z : Int} {x y : Int} (h : ¬ (0 ≤ x ∧ x < (W : Int) ∧ 0 ≤ y ∧ y < (H : Int))) : Ab W H T z x y = false := by
  unfold Ab
  rw [decide_eq_false h]
  rfl
/-- the first column above z, row by row -/
structure Fst (W H : Nat) (T : List Int) (z : Int) (x y : Nat) : Prop where
  hx : x < W
  hy : y < H
  ab : z < tp T (y * W + x)
  no : ∀ u v, u < W → v < H → v * W + u < y * W + x → ¬ z < tp T (v * W + u)
theorem Fst.uniq {W H : Nat} {T : List Int} {z : Int} {x y x' y' : Nat} (h : Fst W H T z x y) (k : Fst W H T z x' y') : x = x' ∧ y = y' := by
  have e : y * W + x = y' * W + x' := by
    rcases Nat.lt_trichotomy (y * W + x) (y' * W + x') with h1 | h1 | h1
    · exact absurd h.ab (k.no x y h.hx h.hy h1)
    · exact h1
    · exact absurd k.ab (h.no x' y' k.hx k.hy h1)
  have := cell_inj h.hx k.hx e
  exact ⟨this.2, this.1⟩
/-- the beginning is a right one, and turns -/
theorem Fst.ok {W H : Nat} {T : List Int} {z : Int} {x y : Nat} (h : Fst W H T z x y) : Cok (Ab W H T z) ⟨(x : Int), (y : Int), 3⟩ ∧ nxd (Ab W H T z) ⟨(x : Int), (y : Int), 3⟩ = 0 := by
  have hx := h.hx
  have hy := h.hy
  have c0 : Ab W H T z ((x : Int) + 0) ((y : Int) + 0) = true := by
    rw [Int.add_zero, Int.add_zero, Ab_at hx hy]
    exact decide_eq_true h.ab
  have c1 : Ab W H T z ((x : Int) + -1) ((y : Int) + 0) = false := by
    by_cases h0 : x = 0
    · exact Ab_out (by omega)
    · rw [show (x : Int) + -1 = ((x - 1 : Nat) : Int) by omega, Int.add_zero, Ab_at (by omega) hy]
      exact decide_eq_false (h.no (x - 1) y (by omega) hy (by omega))
  have c3 : Ab W H T z ((x : Int) + 0) ((y : Int) + -1) = false := by
    by_cases h0 : y = 0
    · exact Ab_out (by omega)
    · rw [show (y : Int) + -1 = ((y - 1 : Nat) : Int) by omega, Int.add_zero, Ab_at hx (by omega)]
      refine decide_eq_false (h.no x (y - 1) hx (by omega) ?_)
      have : (y - 1) * W + W = y * W := by
        rw [show y * W = (y - 1 + 1) * W by rw [show y - 1 + 1 = y by omega], Nat.add_mul, Nat.one_mul]
      omega
  refine ⟨⟨by show 3 < 4; omega, ?_, ?_⟩, ?_⟩
  · show Ab W H T z ((x : Int) + qx (lf 3)) ((y : Int) + qy (lf 3)) = true
    simpa [lf, qx, qy] using c0
  · show Ab W H T z ((x : Int) + qx (bk 3)) ((y : Int) + qy (bk 3)) = false
    simpa [bk, qx, qy] using c1
  · unfold nxd
    rw [if_pos (by
      show Ab W H T z ((x : Int) + qx 3) ((y : Int) + qy 3) = false
      simpa [qx, qy] using c3)]
    show lf 3 = 0
    decide
/-- the corners where it turns, of the first k steps, one number behind another -/
def crn (A : Int → Int → Bool) (s : Cst) : Nat → List Int
  | 0 => []
  | k + 1 => crn A s k ++ if nxd A (itr (nxt A) s k) = (itr (nxt A) s k).d then [] else [(itr (nxt A) s k).x, (itr (nxt A) s k).y]
/-- it is there again behind just K steps -/
structure Bck (A : Int → Int → Bool) (s : Cst) (K : Nat) : Prop where
  one : 1 ≤ K
  le : K ≤ 2500
  at' : (itr (nxt A) s K).x = s.x ∧ (itr (nxt A) s K).y = s.y
  no : ∀ j, 1 ≤ j → j < K → ¬ ((itr (nxt A) s j).x = s.x ∧ (itr (nxt A) s j).y = s.y)
theorem least_of {p : Nat → Prop} : ∀ n, p n → ∃ k, k ≤ n ∧ p k ∧ ∀ j, j < k → ¬ p j := by
  intro n
  induction n using Nat.strongRecOn with
  | _ n ih =>
    intro h
    by_cases he : ∃ m, m < n ∧ p m
    · obtain ⟨m, hm, hp⟩ := he
      obtain ⟨k, h1, h2, h3⟩ := ih m hm hp
      exact ⟨k, by omega, h2, h3⟩
    · exact ⟨n, Nat.le_refl _, h, fun j hj hp => he ⟨j, hj, hp⟩⟩
theorem Bck.ex {A : Int → Int → Bool} {W H : Nat} (hW : W ≤ 24) (hH : H ≤ 24) (hA : ∀ x y, A x y = true → 0 ≤ x ∧ x < (W : Int) ∧ 0 ≤ y ∧ y < (H : Int)) {s : Cst} (hs : Cok A s) : ∃ K, Bck A s K := by
  obtain ⟨n, h1, h2, h3⟩ := outline_back hW hH hA hs
  obtain ⟨k, k1, ⟨k2, k3⟩, k4⟩ := least_of (p := fun k => 1 ≤ k ∧ ((itr (nxt A) s k).x = s.x ∧ (itr (nxt A) s k).y = s.y)) n ⟨h1, by rw [h3]; exact ⟨rfl, rfl⟩⟩
  exact ⟨k, k2, by omega, k3, fun j j1 j2 hj => k4 j j2 ⟨j1, hj⟩⟩
theorem Bck.uniq {A : Int → Int → Bool} {s : Cst} {K L : Nat} (h : Bck A s K) (k : Bck A s L) : K = L := by
  rcases Nat.lt_trichotomy K L with h1 | h1 | h1
  · exact absurd h.at' (k.no K h.one h1)
  · exact h1
  · exact absurd k.at' (h.no L k.one h1)
/-- within the field's corners all the way -/
theorem itr_ok {A : Int → Int → Bool} {s : Cst} (hs : Cok A s) : ∀ k, Cok A (itr (nxt A) s k) := by
  intro k
  induction k with
  | zero => exact hs
  | succ k ih => exact nxt_ok ih
end Go.Proofs.Ytjhldjojkaphkaa
