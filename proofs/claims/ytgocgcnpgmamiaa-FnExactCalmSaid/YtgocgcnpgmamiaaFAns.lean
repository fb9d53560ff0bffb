/-
  An answer that is a row of floating numbers, as the laws look at it.
-/
import Derived.Test.YtgocgcnpgmamiaaSpP
import Derived.Test.YtgocgcnpgmamiaaFlLw
namespace Go.Proofs.Ytgocgcnpgmamiaa
open Go.ChangeShapes Go.WideShapes Go.ChangeAt Go.RowKit
set_option linter.unusedVariables false
set_option linter.unusedSimpArgs false
attribute [local go_sem] run_store_flt run_store_cpx

/-- where an answer's numbers lie -/
def Ta (fk : FloatKind) (t k : Nat) (w : World) (u : Option Addr) (q N cap : Nat) (R : List Nat) : Prop := N ≠ 0 → u = some ⟨q, 0, none⟩ ∧ FRow fk w 0 t k (.slice (some ⟨q, 0, none⟩) N cap) N R
theorem Ta.bel {fk : FloatKind} {t k : Nat} {w w' : World} {u : Option Addr} {q N cap : Nat} {R : List Nat} (h : Ta fk t k w u q N cap R) (hb : Below w.heap.size w w') : Ta fk t k w' u q N cap R := fun h0 => ⟨(h h0).1, (h h0).2.below hb⟩
theorem Ta.but {fk : FloatKind} {t k g : Nat} {w w' : World} {u : Option Addr} {q N cap : Nat} {R : List Nat} (h : Ta fk t k w u q N cap R) (hb : But g w w') (hg : N ≠ 0 → q ≠ g) : Ta fk t k w' u q N cap R := fun h0 => ⟨(h h0).1, (h h0).2.kept' fun g' hg' => by
  simp only [Value.ownBlock, Option.some.injEq] at hg'
  subst hg'
  exact hb.block _ (hg h0)⟩
theorem Ta.fls {fk : FloatKind} {t k : Nat} {w : World} {u : Option Addr} {q N cap : Nat} {R : List Nat} (h : Ta fk t k w u q N cap R) (hl : R.length = N * k) : Fls fk w u q 0 R := fun h0 => by
  have hN : N ≠ 0 := by
    intro e
    subst e
    rw [Nat.zero_mul] at hl
    exact h0 (List.eq_nil_of_length_eq_zero hl)
  obtain ⟨h1, h2⟩ := h hN
  obtain ⟨g, c2, e, _, h4, h5, _⟩ := h2.full hN
  cases e
  exact ⟨h1, h4, h5⟩
theorem FRow.lt' {fk : FloatKind} {t k N q cap B : Nat} {w : World} {R : List Nat} (h : FRow fk w B t k (.slice (some ⟨q, 0, none⟩) N cap) N R) (hN : N ≠ 0) : q < w.heap.size := by
  obtain ⟨g, c2, e, _, h4, h5, _⟩ := h.full hN
  cases e
  exact h4
theorem FAns.get {fk : FloatKind} {w : World} {B t k N : Nat} {v : Value} {F : List (Option Nat)} (h : FAns fk w B t k v N F) : ∃ (u : Option Addr) (q cap : Nat) (R : List Nat), v = .slice u N cap ∧ R.map (Fv fk) = F ∧ R.length = N * k ∧ Ta fk t k w u q N cap R ∧ B ≤ q := by
  obtain ⟨R, hr, hF⟩ := h
  by_cases hN : N = 0
  · obtain ⟨u, cap, hv, _⟩ := hr.form
    exact ⟨u, B, cap, R, hv, hF, hr.len, fun h => absurd hN h, Nat.le_refl _⟩
  · obtain ⟨g, cap, hv, h1, h2, h3, _⟩ := hr.full hN
    subst hv
    exact ⟨_, g, cap, R, rfl, hF, hr.len, fun _ => ⟨rfl, hr.mono (Nat.zero_le _)⟩, h1⟩
theorem fblk.ta {fk : FloatKind} {w : World} {g t k n : Nat} {L : List Nat} (h : fblk fk w g t L) (hl : L.length = n * k) (hn : n ≤ 1048576) : Ta fk t k w (some ⟨g, 0, none⟩) g n n L := fun _ =>
  ⟨rfl, by rw [List.length_map]; exact hl, .inr ⟨g, n, (L.map (Value.float fk)).toArray, rfl, Nat.zero_le _, h, Nat.le_refl _, by unfold maxLen; omega, by simp [hl], by rw [List.take_of_length_le (by simp [hl])]⟩⟩
end Go.Proofs.Ytgocgcnpgmamiaa
