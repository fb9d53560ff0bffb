/-
  The model's move of a milling.
-/
import Derived.Test.YtjhldjojkaphkaaPlcZ
import Derived.Test.YtjhldjojkaphkaaSml
namespace Go.Proofs.Ytjhldjojkaphkaa
open Go.ChangeShapes Go.WideShapes Go.ChangeAt Go.RowKit
set_option linter.unusedVariables false
set_option linter.unusedSimpArgs false

theorem Rn.setAt {X : World} {B M : Nat} {W H : Int} {g po n c : Nat} {P : List Int} {r : Int} {f : Bool} {ax ay az : Int} {q cap : Nat} {s : Ml} (h : Rn X B M W H g po n c P r f ax ay az q cap s) (hq : M ≠ q) (hg : g ≠ M) (f' : Bool) (x y z : Int) :
    Rn ((((X.setCell ⟨M, 4, none⟩ (.bool f')).setCell ⟨M, 5, none⟩ (.int .i64 x)).setCell ⟨M, 6, none⟩ (.int .i64 y)).setCell ⟨M, 7, none⟩ (.int .i64 z)) B M W H g po n c P r f' x y z q cap s := by
  have hb : ∀ k, k ≠ M → ((((X.setCell ⟨M, 4, none⟩ (.bool f')).setCell ⟨M, 5, none⟩ (.int .i64 x)).setCell ⟨M, 6, none⟩ (.int .i64 y)).setCell ⟨M, 7, none⟩ (.int .i64 z)).heap[k]? = X.heap[k]? := fun k hk =>
    (Below.heap_setCell _ _ _ _ hk).trans ((Below.heap_setCell _ _ _ _ hk).trans ((Below.heap_setCell _ _ _ _ hk).trans (Below.heap_setCell _ _ _ _ hk)))
  exact ⟨(((h.v.set 4 _).set 5 _).set 6 _).set 7 _, h.row.kept' (fun b hb' => by simp only [Value.ownBlock, Option.some.injEq] at hb'; subst hb'; exact hb _ (Ne.symm hq)), by simpa [World.setCell] using h.lt, fun j v hj => (World.cell?_of_block (w := X) (a := ⟨g, po + j, none⟩) (hb g hg)).trans (h.part j v hj)⟩
theorem walkC_ok {n : Nat} {P : List Int} {W H r : Nat} {fast : Bool} {fx fy fz tx ty tz : Int} {s : Ml} (hr : r ≤ 3) (hH : 0 < H) (hn : n = W * H) (h : MOk n s) (hz : ∀ i, 1 ≤ i → i ≤ max (stN fx fy fz tx ty tz) 1 → 0 ≤ nth fz tz i) : ∀ k, k ≤ max (stN fx fy fz tx ty tz) 1 → MOk n (walkC P W H r fast fx fy fz tx ty tz s k).2 ∧ s.air ≤ (walkC P W H r fast fx fy fz tx ty tz s k).2.air ∧ (walkC P W H r fast fx fy fz tx ty tz s k).2.air ≤ s.air + k := by
  intro k
  induction k with
  | zero => intro _; exact ⟨h, Int.le_refl _, by show s.air ≤ s.air + 0; omega⟩
  | succ k ih =>
    intro hk
    obtain ⟨h1, h2, h3⟩ := ih (by omega)
    simp only [walkC]
    split
    · exact ⟨h1, h2, by omega⟩
    · have := placeC_ok (P := P) (cs := cols W H r (nth fx tx (k + 1)).toNat (nth fy ty (k + 1)).toNat) (z := nth fz tz (k + 1)) (f := fast) h1 (hz (k + 1) (by omega) hk) (fun i hi => by rw [hn]; exact cols_lt hr hH hi)
      exact ⟨this.1, by omega, by omega⟩
theorem walkC_stick {P : List Int} {W H r : Nat} {fast : Bool} {fx fy fz tx ty tz : Int} {s : Ml} {k : Nat} (h : (walkC P W H r fast fx fy fz tx ty tz s k).1 ≠ 0) : ∀ d, walkC P W H r fast fx fy fz tx ty tz s (k + d) = walkC P W H r fast fx fy fz tx ty tz s k := by
  intro d
  induction d with
  | zero => rfl
  | succ d ih =>
    show walkC P W H r fast fx fy fz tx ty tz s ((k + d) + 1) = _
    simp only [walkC]
    rw [if_pos (by rw [ih]; exact h), ih]
theorem sg_cases (x : Int) : sg x = 1 ∨ sg x = -1 ∨ sg x = 0 := by unfold sg; split <;> (try split) <;> simp
theorem sg_mul {x : Int} {k : Nat} (hk : k ≤ 1000) : -1000 ≤ sg x * (k : Int) ∧ sg x * (k : Int) ≤ 1000 := by
  rcases sg_cases x with h | h | h <;> rw [h] <;> omega
def abI (x : Int) : Int := (x.natAbs : Int)
theorem abI_le {x : Int} (h1 : -100 ≤ x) (h2 : x ≤ 100) : 0 ≤ abI x ∧ abI x ≤ 100 := by unfold abI; omega
theorem stN_ab (fx fy fz tx ty tz : Int) : max (abI (tx - fx) + abI (ty - fy) + abI (tz - fz)) 1 = ((max (stN fx fy fz tx ty tz) 1 : Nat) : Int) := by unfold abI stN; omega
/-- the code of a move -/
def mvCd (P : List Int) (W H r : Nat) (fast : Bool) (fx fy fz tx ty tz : Int) (s : Ml) : Int :=
  if wyC W H fx fy fz tx ty tz ≠ 0 then wyC W H fx fy fz tx ty tz else (walkC P W H r fast fx fy fz tx ty tz s (max (stN fx fy fz tx ty tz) 1)).1
end Go.Proofs.Ytjhldjojkaphkaa
