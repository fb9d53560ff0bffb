/-
  A map from shafts to holes.
-/
import Derived.Test.YtmoobfbjehgdnaaBkRun
import Derived.Test.YtmoobfbjehgdnaaMtP
import Derived.Test.YtmoobfbjehgdnaaAppNew
import Derived.Maps.OwnSet
import Derived.Maps.OwnOps
namespace Go.Proofs.Ytmoobfbjehgdnaa
open Go.ChangeShapes Go.WideShapes Go.ChangeAt Go.RowKit Go.Maps
set_option linter.unusedVariables false
set_option linter.unusedSimpArgs false

theorem omap_keep {P : Program} {k b n : Nat} {R : Value → Option (DataW Unit × List MemPlace)} {D : DataW Unit} {w w' : World} (h : w.ownsMap P k R b n D) (hb : w'.heap[b]? = w.heap[b]?) : w'.ownsMap P k R b n D := by
  obtain ⟨es, clock, hb', r⟩ := h
  exact ⟨es, clock, hb.trans hb', r⟩
theorem lawI : Keyed Try.prog 3 := int_keyed Try.underlying3
theorem intL_key (x : Int) : WideAt.IsKeyLit (.int .i64 x) := trivial
/-- the map behind k pairs -/
def Mp (ps : List (Int × Int)) : Nat → DataW Unit
  | 0 => .map []
  | k + 1 => (Mp ps k).put (.int .i64 ((ps[k]?).getD (0, 0)).2) (.lit (.int .i64 ((ps[k]?).getD (0, 0)).1))
theorem Mp_tidy (ps : List (Int × Int)) : ∀ k, Tidy (Mp ps k)
  | 0 => tidy_empty
  | k + 1 => (Mp_tidy ps k).put (intL_key _) _
theorem Mp_at {ps : List (Int × Int)} (hu : ∀ a a' s, (a, s) ∈ ps → (a', s) ∈ ps → a = a') {z : DataW Unit} : ∀ k, k ≤ ps.length → ∀ j, j < k → ∀ a s, ps[j]? = some (a, s) → (Mp ps k).atKey (.int .i64 s) z = .lit (.int .i64 a) := by
  intro k
  induction k with
  | zero => intro _ j hj; omega
  | succ k ih =>
    intro hk j hj a s hjs
    obtain ⟨⟨a', s'⟩, hx⟩ : ∃ x, ps[k]? = some x := ⟨_, List.getElem?_eq_getElem (by omega)⟩
    show ((Mp ps k).put _ _).atKey _ _ = _
    rw [hx, Option.getD_some]
    by_cases e : s = s'
    · subst e
      rw [hu a a' s (List.mem_of_getElem? hjs) (List.mem_of_getElem? hx)]
      exact atKey_put_same (Mp_tidy ps k).isMap (intL_key _) _ _
    · have hjk : j < k := by
        rcases Nat.lt_or_ge j k with h | h
        · exact h
        · have : j = k := by omega
          subst this
          rw [hjs] at hx
          cases hx
          exact absurd rfl e
      have := ih (by omega) j hjk a s hjs
      rw [atKey_put_other (fun h => e (by injection h))]
      exact this

/-- the facts that the told rows' loop keeps: marks, map, m's own block, both rows -/
structure Kp (w : World) (bm gm gt' : Nat) (cs : List Value) (D : DataW Unit) (k : Nat) (B Bs : Nat) (va vs : Value) (Hs Ss : List Int) (T : List Bool) (W : World) : Prop where
  mine : vblk W bm 46 cs
  marks : bblk W gt' T
  map : W.ownsMap Try.prog 3 (plainElem Try.prog 3) gm k D
  ra : Row W B 3 1 va Hs.length Hs
  rs : Row W Bs 3 1 vs Ss.length Ss
  ne : ∀ b, va.ownBlock = some b → vs.ownBlock ≠ some b ∧ b ≠ gm ∧ b ≠ gt'
  bel : Below w.heap.size w W

section
variable {w : World} {bm gm gt' : Nat} {cs : List Value} {D : DataW Unit} {k B Bs : Nat} {va vs : Value} {Hs Ss : List Int} {T : List Bool} {W W' : World}
theorem Kp.low (h : Kp w bm gm gt' cs D k B Bs va vs Hs Ss T W) (hb : Below W.heap.size W W') : Kp w bm gm gt' cs D k B Bs va vs Hs Ss T W' where
  mine := vblk.bel h.mine hb
  marks := vblk.bel h.marks hb
  map := omap_keep h.map (hb.block _ h.map.lt)
  ra := h.ra.below hb
  rs := h.rs.below hb
  ne := h.ne
  bel := bc h.bel hb
theorem Kp.mark (h : Kp w bm gm gt' cs D k B Bs va vs Hs Ss T W) (h1 : bm ≠ gt') (h2 : gm ≠ gt') (h3 : gt' < Bs) (h4 : w.heap.size ≤ gt') (j : Nat) : Kp w bm gm gt' cs D k B Bs va vs Hs Ss (T.set j true) (W.setCell ⟨gt', j, none⟩ (.bool true)) where
  mine := (Below.heap_setCell _ _ _ _ h1).trans h.mine
  marks := h.marks.set j true
  map := omap_keep h.map (Below.heap_setCell _ _ _ _ h2)
  ra := h.ra.kept' (fun y hy => Below.heap_setCell _ _ _ _ (show y ≠ gt' from (h.ne y hy).2.2))
  rs := h.rs.kept' (fun y hy => Below.heap_setCell _ _ _ _ (show y ≠ gt' by have := (World.ownsRow.lt h.rs y hy).1; omega))
  ne := h.ne
  bel := ⟨h.bel.os, h.bel.tape, h.bel.output, by simpa [World.setCell] using h.bel.size, fun i hi => (Below.heap_setCell _ _ _ _ (show i ≠ gt' by omega)).trans (h.bel.block i hi)⟩
theorem Kp.tell (h : Kp w bm gm gt' cs D k B Bs va vs Hs Ss T W) {vs' : Value} {x : Int} (hb : bm < Bs) (hm : gm < Bs) (hg : gt' < Bs) (hw : w.heap.size ≤ Bs) (hr : Row W' Bs 3 1 vs' (Ss.length + 1) (Ss ++ [x])) (hgr : W.grownBy W' vs.ownBlock) (hnb : NewBlk W vs vs') : Kp w bm gm gt' cs D k B Bs va vs' Hs (Ss ++ [x]) T W' := by
  have hne : ∀ i, i < Bs → some i ≠ vs.ownBlock := fun i hi e => by have := (World.ownsRow.lt h.rs i e.symm).1; omega
  exact {
    mine := (hgr.block _ h.mine.lt (hne _ hb)).trans h.mine
    marks := (hgr.block _ (vblk.lt h.marks) (hne _ hg)).trans h.marks
    map := omap_keep h.map (hgr.block _ h.map.lt (hne _ hm))
    ra := h.ra.kept' (fun y hy => hgr.block y (World.ownsRow.lt h.ra y hy).2 (fun e => (h.ne y hy).1 e.symm))
    rs := by rw [show (Ss ++ [x]).length = Ss.length + 1 by simp]; exact hr
    ne := fun b hb => ⟨fun e => by
      rcases hnb b e with e2 | e2
      · exact (h.ne b hb).1 e2
      · have := (World.ownsRow.lt h.ra b hb).2; omega, (h.ne b hb).2⟩
    bel := ⟨hgr.os.trans h.bel.os, hgr.tape.trans h.bel.tape, hgr.output.trans h.bel.output, Nat.le_trans h.bel.size hgr.size, fun i hi => (hgr.block i (Nat.lt_of_lt_of_le hi h.bel.size) (hne i (by omega))).trans (h.bel.block i hi)⟩ }
theorem Kp.more (h : Kp w bm gm gt' cs D k B Bs va vs Hs Ss T W) {va' : Value} {x : Int} (hb : bm < B) (hw : w.heap.size ≤ B) (hr : Row W' B 3 1 va' (Hs.length + 1) (Hs ++ [x])) (hgr : W.grownBy W' va.ownBlock) (hnb : NewBlk W va va') : Kp w bm gm gt' cs D k B Bs va' vs (Hs ++ [x]) Ss T W' := by
  have hne : ∀ i, i < B → some i ≠ va.ownBlock := fun i hi e => by have := (World.ownsRow.lt h.ra i e.symm).1; omega
  have hg : gt' < W.heap.size := vblk.lt h.marks
  have hm := h.map.lt
  exact {
    mine := (hgr.block _ h.mine.lt (hne _ hb)).trans h.mine
    marks := (hgr.block _ hg (fun e => (h.ne _ e.symm).2.2 rfl)).trans h.marks
    map := omap_keep h.map (hgr.block _ hm (fun e => (h.ne _ e.symm).2.1 rfl))
    ra := by rw [show (Hs ++ [x]).length = Hs.length + 1 by simp]; exact hr
    rs := h.rs.kept' (fun y hy => hgr.block y (World.ownsRow.lt h.rs y hy).2 (fun e => (h.ne y e.symm).1 hy))
    ne := fun b hb => by
      rcases hnb b hb with e2 | e2
      · exact h.ne b e2
      · exact ⟨fun e => by have := (World.ownsRow.lt h.rs b e).2; omega, by omega, by omega⟩
    bel := ⟨hgr.os.trans h.bel.os, hgr.tape.trans h.bel.tape, hgr.output.trans h.bel.output, Nat.le_trans h.bel.size hgr.size, fun i hi => (hgr.block i (Nat.lt_of_lt_of_le hi h.bel.size) (hne i (by omega))).trans (h.bel.block i hi)⟩ }
end

end Go.Proofs.Ytmoobfbjehgdnaa
