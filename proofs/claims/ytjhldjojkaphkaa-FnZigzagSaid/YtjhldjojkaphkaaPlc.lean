/-
  Candidates, and those of them that count, in their order.
-/
import Derived.Test.YtjhldjojkaphkaaTfo
import Derived.Test.YtjhldjojkaphkaaCtM0
namespace Go.Proofs.Ytjhldjojkaphkaa
set_option linter.unusedVariables false
set_option linter.unusedSimpArgs false

/-- how many of the first c candidates count -/
def cnq {α : Type} (f : Nat → Option α) (c : Nat) : Nat := ((List.range c).filterMap f).length
def lsq {α : Type} (f : Nat → Option α) (C : Nat) : List α := (List.range C).filterMap f
theorem cnq_succ {α : Type} (f : Nat → Option α) (c : Nat) : cnq f (c + 1) = cnq f c + (if (f c).isSome then 1 else 0) := by
  unfold cnq
  rw [List.range_succ, List.filterMap_append, List.length_append]
  cases h : f c <;> simp [h]
theorem cnq_none {α : Type} {f : Nat → Option α} {c : Nat} (h : f c = none) : cnq f (c + 1) = cnq f c := by rw [cnq_succ, h]; rfl
theorem lsq_pre {α : Type} (f : Nat → Option α) (c : Nat) : ∀ d, ∃ M, lsq f (c + d) = lsq f c ++ M
  | 0 => ⟨[], by simp⟩
  | d + 1 => by
    obtain ⟨M, hM⟩ := lsq_pre f c d
    refine ⟨M ++ [c + d].filterMap f, ?_⟩
    show (List.range (c + d + 1)).filterMap f = _
    rw [List.range_succ, List.filterMap_append]
    show lsq f (c + d) ++ _ = _
    rw [hM, List.append_assoc]
theorem cnq_some {α : Type} {f : Nat → Option α} {c C : Nat} {p : α} (hc : c < C) (h : f c = some p) : (lsq f C)[cnq f c]? = some p ∧ cnq f (c + 1) = cnq f c + 1 ∧ cnq f c < (lsq f C).length := by
  have e1 : cnq f (c + 1) = cnq f c + 1 := by rw [cnq_succ, h]; rfl
  obtain ⟨M, hM⟩ := lsq_pre f (c + 1) (C - (c + 1))
  rw [show c + 1 + (C - (c + 1)) = C by omega] at hM
  have e2 : lsq f (c + 1) = lsq f c ++ [p] := by
    unfold lsq
    rw [List.range_succ, List.filterMap_append]
    simp [h]
  have e3 : (lsq f C)[cnq f c]? = some p := by
    rw [hM, e2, List.append_assoc]
    show (lsq f c ++ _)[(lsq f c).length]? = _
    simp
  exact ⟨e3, e1, (List.getElem?_eq_some_iff.1 e3).1⟩
theorem cnq_all {α : Type} (f : Nat → Option α) (C : Nat) : cnq f C = (lsq f C).length := rfl
/-- a level's candidate -/
def cn1 (W H s : Nat) (L : List Int) (a b : Nat) : Option (Nat × Nat × Int) := if tp L (b / W * W + tfx W b) ≤ lvl s a then some (tfx W b, b / W, lvl s a) else none
/-- whether a number is a level -/
def islv (s : Nat) (z : Int) : Bool := (List.range (lvn s)).any fun k => lvl s k == z
def cn2 (W s : Nat) (L : List Int) (b : Nat) : Option (Nat × Nat × Int) := if islv s (tp L b) then none else some (b % W, b / W, tp L b)
def cnd (W H s : Nat) (L : List Int) (c : Nat) : Option (Nat × Nat × Int) := if c < lvn s * (W * H) then cn1 W H s L (c / (W * H)) (c % (W * H)) else cn2 W s L (c - lvn s * (W * H))
def cnC (W H s : Nat) : Nat := lvn s * (W * H) + W * H
theorem cnd_1 {W H s : Nat} (L : List Int) {a b : Nat} (ha : a < lvn s) (hb : b < W * H) : cnd W H s L (a * (W * H) + b) = cn1 W H s L a b := by
  unfold cnd
  have h1 : a * (W * H) + b < lvn s * (W * H) := by
    have : (a + 1) * (W * H) ≤ lvn s * (W * H) := Nat.mul_le_mul_right _ ha
    rw [Nat.add_mul, Nat.one_mul] at this
    omega
  rw [if_pos h1]
  have e1 : (a * (W * H) + b) / (W * H) = a := by rw [Nat.mul_comm, Nat.mul_add_div (by omega), Nat.div_eq_of_lt hb]; omega
  have e2 : (a * (W * H) + b) % (W * H) = b := by rw [Nat.mul_comm, Nat.mul_add_mod]; exact Nat.mod_eq_of_lt hb
  rw [e1, e2]
theorem cnd_2 {W H s : Nat} (L : List Int) (b : Nat) : cnd W H s L (lvn s * (W * H) + b) = cn2 W s L b := by
  unfold cnd
  rw [if_neg (by omega), show lvn s * (W * H) + b - lvn s * (W * H) = b by omega]
/-- the places, as values -/
def plV (p : Nat × Nat × Int) : Value := .agg #[.int .i64 ((p.1 : Nat) : Int), .int .i64 ((p.2.1 : Nat) : Int), .int .i64 p.2.2]
def plc (ps : List (Nat × Nat × Int)) (k : Nat) : Array Value := #[plV (ps.getD k (0, 0, 0))]
theorem plc_at {ps : List (Nat × Nat × Int)} {k : Nat} {p : Nat × Nat × Int} (h : ps[k]? = some p) : plc ps k = #[plV p] := by
  unfold plc
  rw [List.getD_eq_getElem?_getD, h]
  rfl
theorem tfx_lt {W k : Nat} (hW : 0 < W) : tfx W k < W := by
  unfold tfx
  have := Nat.mod_lt k hW
  split <;> omega
theorem lvl_bd (s k : Nat) : 0 ≤ lvl s k ∧ lvl s k ≤ 24 := by
  unfold lvl
  have : 0 ≤ (s : Int) * ((k : Int) + 1) := Int.mul_nonneg (by omega) (by omega)
  omega
end Go.Proofs.Ytjhldjojkaphkaa
