/-
  The moves of Zigzag, as they lie in memory.
-/
import Derived.Test.YtjhldjojkaphkaaZg5
namespace Go.Proofs.Ytjhldjojkaphkaa
open Go.ChangeShapes Go.WideShapes Go.ChangeAt Go.RowKit Go.Shelf
set_option linter.unusedVariables false
set_option linter.unusedSimpArgs false

theorem mv65 : (Try.prog.info? 65).map (fun i => (i.zero, i.size, i.bytes)) = some (some (.agg #[.bool false, .int .i64 0, .int .i64 0, .int .i64 0]), 4, 32) := by kernel_rfl
/-- a move: fast or not, and where to -/
def mvC (f : Bool) (x y z : Int) : List Value := [.bool f, .int .i64 x, .int .i64 y, .int .i64 z]
/-- to a place and up again -/
def mv4 (x oy y z : Int) : List Value := mvC true x oy 24 ++ mvC true x y 24 ++ mvC false x y z ++ mvC true x y 24
def zoy (ps : List (Nat × Nat × Int)) : Nat → Int
  | 0 => 0
  | k + 1 => ((ps.getD k (0, 0, 0)).2.1 : Int)
def zcs (ps : List (Nat × Nat × Int)) : Nat → List Value
  | 0 => mvC true 0 0 24
  | k + 1 => zcs ps k ++ mv4 ((ps.getD k (0, 0, 0)).1 : Int) (zoy ps k) ((ps.getD k (0, 0, 0)).2.1 : Int) (ps.getD k (0, 0, 0)).2.2
theorem getD_of {ps : List (Nat × Nat × Int)} {k : Nat} {p : Nat × Nat × Int} (h : ps[k]? = some p) : ps.getD k (0, 0, 0) = p := by simp [h]
theorem zcs_succ {ps : List (Nat × Nat × Int)} {k x y : Nat} {z : Int} (h : ps[k]? = some (x, y, z)) : zcs ps (k + 1) = zcs ps k ++ mv4 (x : Int) (zoy ps k) (y : Int) z ∧ zoy ps (k + 1) = (y : Int) := by
  constructor
  · rw [zcs, getD_of h]
  · rw [zoy, getD_of h]
theorem zcs_len (ps : List (Nat × Nat × Int)) : ∀ k, (zcs ps k).length = (1 + 4 * k) * 4
  | 0 => rfl
  | k + 1 => by
    rw [zcs, List.length_append, zcs_len ps k]
    simp [mv4, mvC]
    omega
theorem mv4_one (x oy y z : Int) : ∀ u ∈ mv4 x oy y z, u.oneCell' = true := by
  intro u hu
  simp [mv4, mvC] at hu
  rcases hu with h | h | h | h | h | h | h | h | h | h | h | h | h | h | h | h <;> (subst h; rfl)
/-- a row of moves -/
def Mvs (w : World) (B : Nat) (v : Value) (m : Nat) (cs : List Value) : Prop := w.ownsRow B 65 4 v m cs
theorem Mvs.kept {w w' : World} {B m : Nat} {v : Value} {cs : List Value} (h : Mvs w B v m cs) (hb : ∀ g, v.ownBlock = some g → w'.heap[g]? = w.heap[g]?) : Mvs w' B v m cs := by
  refine ⟨h.1, ?_⟩
  rcases h.2 with h1 | ⟨g, cap, cur, hv, hB, hh, r⟩
  · exact .inl h1
  · exact .inr ⟨g, cap, cur, hv, hB, (hb g (by rw [hv]; rfl)).trans hh, r⟩
theorem Mvs.lt {w : World} {B m : Nat} {v : Value} {cs : List Value} (h : Mvs w B v m cs) : ∀ g, v.ownBlock = some g → B ≤ g ∧ g < w.heap.size := by
  intro g hg
  rcases h.2 with ⟨h1, _⟩ | ⟨q, cap, cur, hv, hB, hh, r⟩
  · rw [h1] at hg; cases hg
  · rw [hv] at hg
    simp only [Value.ownBlock, Option.some.injEq] at hg
    subst hg
    exact ⟨hB, (Array.getElem?_eq_some_iff.1 hh).1⟩
/-- between two places -/
structure Zl (w : World) (B b10 b11 s8 s9 : Nat) (S : Nat → Prop) (ps : List (Nat × Nat × Int)) (O : Nat → Prop) (k : Nat) (X : World) : Prop where
  far : ∀ b, O b → B ≤ b
  big : B ≤ X.heap.size
  row : ∃ v, vb X b10 29 [v] ∧ Mvs X (w.heap.size + 4) v (1 + 4 * k) (zcs ps k) ∧ (∀ g, v.ownBlock = some g → ¬ O g ∧ ¬ S g)
  v11 : vb X b11 3 [.int .i64 (zoy ps k)]
  v8 : vb X s8 29 [.slice none 0 0]
  v9 : vb X s9 3 [.int .i64 0]
  few : 1 + 4 * k ≤ 2000
  bel : Below w.heap.size w X
theorem Zl.on {w : World} {B b10 b11 s8 s9 : Nat} {S : Nat → Prop} {ps : List (Nat × Nat × Int)} {O O' : Nat → Prop} {k : Nat} {A C : World} (h : Zl w B b10 b11 s8 s9 S ps O k A) (hB : w.heap.size ≤ B) (h10 : b10 < B) (h11 : b11 < B) (h8 : s8 < B) (h9 : s9 < B) (hg : Grw O A C) (hO : ∀ b, O' b → O b ∨ A.heap.size ≤ b) : Zl w B b10 b11 s8 s9 S ps O' k C := by
  obtain ⟨v, hv, hr, hn⟩ := h.row
  have hbel : Below B A C := hg.bel h.big h.far
  exact ⟨fun b hb => (hO b hb).elim (h.far b) (fun h9 => by have := h.big; omega), Nat.le_trans h.big hg.size, ⟨v, hv.below hbel h10, hr.kept (fun g hgg => hg.block g (hr.lt g hgg).2 (hn g hgg).1), fun g hgg => ⟨fun ho => (hO g ho).elim (hn g hgg).1 (fun h9 => by have := (hr.lt g hgg).2; omega), (hn g hgg).2⟩⟩, h.v11.below hbel h11, h.v8.below hbel h8, h.v9.below hbel h9, h.few, h.bel.trans (hbel.mono hB)⟩
end Go.Proofs.Ytjhldjojkaphkaa
