/-
  The model's outline.
-/
import Derived.Test.YtjhldjojkaphkaaAbM
namespace Go.Proofs.Ytjhldjojkaphkaa
open Go.ChangeShapes Go.WideShapes Go.ChangeAt Go.RowKit
set_option linter.unusedVariables false
set_option linter.unusedSimpArgs false

/-- of the columns from p on, the first above z -/
def Sc (W H : Nat) (T : List Int) (z : Int) (p : Nat) (fx fy : Int) : Prop :=
  ((∀ i, p ≤ i → i < W * H → ¬ z < tp T i) ∧ fx = -1 ∧ fy = 0) ∨ ∃ x y : Nat, fx = (x : Int) ∧ fy = (y : Int) ∧ x < W ∧ y < H ∧ p ≤ y * W + x ∧ z < tp T (y * W + x) ∧ ∀ i, p ≤ i → i < y * W + x → ¬ z < tp T i
theorem Sc.start (W H : Nat) (T : List Int) (z : Int) : Sc W H T z (H * W) (-1) 0 := .inl ⟨fun i h1 h2 => by rw [Nat.mul_comm] at h2; omega, rfl, rfl⟩
theorem Sc.no {W H : Nat} {T : List Int} {z : Int} {p : Nat} {fx fy : Int} (h : Sc W H T z (p + 1) fx fy) (hp : ¬ z < tp T p) : Sc W H T z p fx fy := by
  have key : ∀ i, p ≤ i → i = p ∨ p + 1 ≤ i := fun i hi => by omega
  rcases h with ⟨h1, h2, h3⟩ | ⟨x, y, e1, e2, hx, hy, h1, h2, h3⟩
  · exact .inl ⟨fun i hi hl => by rcases key i hi with rfl | h; exact hp; exact h1 i h hl, h2, h3⟩
  · exact .inr ⟨x, y, e1, e2, hx, hy, by omega, h2, fun i hi hl => by rcases key i hi with rfl | h; exact hp; exact h3 i h hl⟩
theorem Sc.yes {W H : Nat} {T : List Int} {z : Int} {x y : Nat} (hx : x < W) (hy : y < H) (hp : z < tp T (y * W + x)) : Sc W H T z (y * W + x) (x : Int) (y : Int) :=
  .inr ⟨x, y, rfl, rfl, hx, hy, Nat.le_refl _, hp, fun i h1 h2 => by omega⟩
theorem Sc.done {W H : Nat} {T : List Int} {z : Int} {fx fy : Int} (h : Sc W H T z 0 fx fy) : ((∀ i, i < W * H → ¬ z < tp T i) ∧ fx = -1) ∨ ∃ x y : Nat, fx = (x : Int) ∧ fy = (y : Int) ∧ Fst W H T z x y := by
  rcases h with ⟨h1, h2, h3⟩ | ⟨x, y, e1, e2, hx, hy, h1, h2, h3⟩
  · exact .inl ⟨fun i hi => h1 i (Nat.zero_le _) hi, h2⟩
  · exact .inr ⟨x, y, e1, e2, hx, hy, h2, fun u v _ _ h => h3 _ (Nat.zero_le _) h⟩
theorem wx_bd (d : Nat) : -1 ≤ wx d ∧ wx d ≤ 1 := by unfold wx; split <;> (try split) <;> omega
theorem wy_bd (d : Nat) : -1 ≤ wy d ∧ wy d ≤ 1 := by unfold wy; split <;> (try split) <;> omega
theorem w_lf {d : Nat} (h : d < 4) : wx (lf d) = -wy d ∧ wy (lf d) = wx d ∧ lf d ≠ d := by rcases d_cases h with rfl | rfl | rfl | rfl <;> simp [wx, wy, lf]
theorem w_rt {d : Nat} (h : d < 4) : wx (rt d) = wy d ∧ wy (rt d) = -wx d ∧ rt d ≠ d := by rcases d_cases h with rfl | rfl | rfl | rfl <;> simp [wx, wy, rt]
theorem pt46 : (Try.prog.info? 46).map (fun i => (i.zero, i.size, i.bytes)) = some (some (.agg #[.int .i64 0, .int .i64 0]), 2, 16) := by kernel_rfl
theorem eql46 (a1 a2 b1 b2 : Int) (W : World) : (binOp .eql 46 (.agg #[.int .i64 a1, .int .i64 a2]) (.agg #[.int .i64 b1, .int .i64 b2])).run Try.prog W = .ok (.bool (decide (a1 = b1 ∧ a2 = b2))) W := by
  cases h1 : a1 == b1 <;> cases h2 : a2 == b2
  all_goals
    have k1 := h1
    have k2 := h2
    simp only [beq_eq_false_iff_ne, ne_eq, beq_iff_eq] at k1 k2
    simp [go_sem, h1, h2, k1, k2]
end Go.Proofs.Ytjhldjojkaphkaa
