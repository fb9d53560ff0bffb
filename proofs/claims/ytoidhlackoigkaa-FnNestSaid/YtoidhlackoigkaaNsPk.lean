/-
  What holds while the model looks for a place: ends gathered, places looked at, the best so far.
-/
import Derived.Test.YtoidhlackoigkaaPl67
namespace Go.Proofs.Ytoidhlackoigkaa
open Go.ChangeShapes Go.WideShapes Go.ChangeAt Go.RowKit
set_option linter.unusedVariables false
set_option linter.unusedSimpArgs false

/-- while the ends are gathered -/
structure PlB (w W : World) (R : List Rc) (i k : Nat) (ry rx : Value) : Prop where
  bel : Below w.heap.size w W
  sz : w.heap.size + 1 ≤ W.heap.size
  re : vb W w.heap.size 84 [.int .i64 0, .int .i64 0, .int .i64 0, .int .i64 0]
  p : Row W (w.heap.size + 1) 3 1 ry (i + 1) (tops (R.take i))
  q : Row W (w.heap.size + 1) 3 1 rx (k + 1) (rights (R.take k))
  d : Dj ry rx
theorem PlB.on {w W W2 : World} {R : List Rc} {i k : Nat} {ry rx : Value} (h : PlB w W R i k ry rx) (hb : Below W.heap.size W W2) : PlB w W2 R i k ry rx :=
  ⟨bc h.bel hb, Nat.le_trans h.sz hb.size, h.re.bel hb, h.p.below hb, h.q.below hb, h.d⟩
theorem PlB.y {w X X2 : World} {R : List Rc} {i k : Nat} {ry rx ry' : Value} {a : Rc} (h : PlB w X R i k ry rx) (hx : R[i]? = some a) (hrow : Row X2 (w.heap.size + 1) 3 1 ry' (i + 1 + 1) (tops (R.take i) ++ [a.y + a.h])) (hgr : X.grownBy X2 ry.ownBlock) (hnb : NewBlk X ry ry') : PlB w X2 R (i + 1) k ry' rx :=
  ⟨h.bel.grown (B := w.heap.size) hgr (by have := h.sz; omega) (fun j e => by have h9 := (h.p.lt _ e).1; omega), Nat.le_trans h.sz hgr.size, h.re.grown hgr (fun e => by have h9 := (h.p.lt _ e).1; omega), by rw [tops_take hx]; exact hrow, h.q.grown hgr (fun q hq e => h.d.symm q hq e), ((h.d.symm).new h.q hnb).symm⟩
theorem PlB.x {w X X2 : World} {R : List Rc} {i k : Nat} {ry rx rx' : Value} {a : Rc} (h : PlB w X R i k ry rx) (hx : R[k]? = some a) (hrow : Row X2 (w.heap.size + 1) 3 1 rx' (k + 1 + 1) (rights (R.take k) ++ [a.x + a.w])) (hgr : X.grownBy X2 rx.ownBlock) (hnb : NewBlk X rx rx') : PlB w X2 R i (k + 1) ry rx' :=
  ⟨h.bel.grown (B := w.heap.size) hgr (by have := h.sz; omega) (fun j e => by have h9 := (h.q.lt _ e).1; omega), Nat.le_trans h.sz hgr.size, h.re.grown hgr (fun e => by have h9 := (h.q.lt _ e).1; omega), h.p.grown hgr (fun q hq e => h.d q hq e), by rw [rights_take hx]; exact hrow, h.d.new h.p hnb⟩
/-- the best so far, as it lies -/
def bsC (wi he : Int) (o : Option (Int × Int)) : List Value := match o with | none => [.int .i64 0, .int .i64 (-1), .int .i64 0, .int .i64 0] | some p => [.int .i64 p.1, .int .i64 p.2, .int .i64 wi, .int .i64 he]
/-- while places are looked at -/
structure PlS (w W : World) (R : List Rc) (wi he : Int) (gy gx gb : Nat) (o : Option (Int × Int)) : Prop where
  bel : Below w.heap.size w W
  sz : w.heap.size + 1 ≤ W.heap.size
  re : vb W w.heap.size 84 [.int .i64 0, .int .i64 0, .int .i64 0, .int .i64 0]
  ys : IntsAt W gy 0 (tops R)
  xs : IntsAt W gx 0 (rights R)
  bs : vb W gb 84 (bsC wi he o)
  ylt : gy < W.heap.size
  xlt : gx < W.heap.size
  ny : gb ≠ gy
  nx : gb ≠ gx
  nb : w.heap.size < gb
theorem PlS.on {w W W2 : World} {R : List Rc} {wi he : Int} {gy gx gb : Nat} {o : Option (Int × Int)} (h : PlS w W R wi he gy gx gb o) (hb : Below W.heap.size W W2) : PlS w W2 R wi he gy gx gb o :=
  ⟨bc h.bel hb, Nat.le_trans h.sz hb.size, h.re.bel hb, h.ys.below hb h.ylt, h.xs.below hb h.xlt, h.bs.bel hb, Nat.lt_of_lt_of_le h.ylt hb.size, Nat.lt_of_lt_of_le h.xlt hb.size, h.ny, h.nx, h.nb⟩
theorem PlS.one {w W : World} {R : List Rc} {wi he : Int} {gy gx gb : Nat} {vs : List Value} (hs : IntsAt W gy 0 (tops R)) (ng : gb ≠ gy) (o : Nat) (x : Value) : IntsAt (W.setCell ⟨gb, o, none⟩ x) gy 0 (tops R) := hs.blk (Below.heap_setCell _ _ _ _ (fun e => ng e.symm))
theorem ints_ne {W : World} {g gb : Nat} {L : List Int} (hs : IntsAt W g 0 L) (ng : gb ≠ g) (o : Nat) (x : Value) : IntsAt (W.setCell ⟨gb, o, none⟩ x) g 0 L := hs.blk (Below.heap_setCell _ _ _ _ (fun e => ng e.symm))
theorem PlS.put {w W : World} {R : List Rc} {wi he : Int} {gy gx gb : Nat} {o : Option (Int × Int)} (h : PlS w W R wi he gy gx gb o) (x y : Int) :
    PlS w ((((W.setCell ⟨gb, 0, none⟩ (.int .i64 x)).setCell ⟨gb, 1, none⟩ (.int .i64 y)).setCell ⟨gb, 2, none⟩ (.int .i64 wi)).setCell ⟨gb, 3, none⟩ (.int .i64 he)) R wi he gy gx gb (some (x, y)) := by
  have hn : w.heap.size ≠ gb := by have := h.nb; omega
  have hle : w.heap.size ≤ gb := by have := h.nb; omega
  refine ⟨(((h.bel.setCell (by simpa using hle) _).setCell (by simpa using hle) _).setCell (by simpa using hle) _).setCell (by simpa using hle) _, by simpa using h.sz, (((h.re.ne hn).ne hn).ne hn).ne hn, ints_ne (ints_ne (ints_ne (ints_ne h.ys h.ny _ _) h.ny _ _) h.ny _ _) h.ny _ _, ints_ne (ints_ne (ints_ne (ints_ne h.xs h.nx _ _) h.nx _ _) h.nx _ _) h.nx _ _, ?_, by simpa using h.ylt, by simpa using h.xlt, h.ny, h.nx, h.nb⟩
  have := (((h.bs.set 0 (.int .i64 x)).set 1 (.int .i64 y)).set 2 (.int .i64 wi)).set 3 (.int .i64 he)
  cases o with
  | none => exact this
  | some p => exact this
/-- the places that were looked at: all of the levels ahead of i, and k of its own -/
def seen (R : List Rc) (i k : Nat) (x y : Int) : Prop := (∃ i', i' < i ∧ (tops R)[i']? = some y ∧ x ∈ rights R) ∨ ((tops R)[i]? = some y ∧ ∃ k', k' < k ∧ (rights R)[k']? = some x)
theorem seen_step {R : List Rc} {i k : Nat} {x y : Int} (hy : (tops R)[i]? = some y) (hx : (rights R)[k]? = some x) : ∀ a b, seen R i (k + 1) a b → seen R i k a b ∨ (a = x ∧ b = y) := by
  intro a b h
  rcases h with h | ⟨h1, k', h2, h3⟩
  · exact Or.inl (Or.inl h)
  · rw [hy] at h1
    cases h1
    by_cases hk : k' = k
    · subst hk
      rw [hx] at h3
      cases h3
      exact Or.inr ⟨rfl, rfl⟩
    · exact Or.inl (Or.inr ⟨hy, k', by omega, h3⟩)
theorem seen_next {R : List Rc} {i : Nat} : ∀ a b, seen R (i + 1) 0 a b → seen R i (rights R).length a b := by
  intro a b h
  rcases h with ⟨i', h1, h2, h3⟩ | ⟨_, k', h2, _⟩
  · by_cases hi : i' = i
    · subst hi
      obtain ⟨k', hk⟩ := List.getElem?_of_mem h3
      exact Or.inr ⟨h2, k', (List.getElem?_eq_some_iff.1 hk).1, hk⟩
    · exact Or.inl ⟨i', by omega, h2, h3⟩
  · omega
theorem bst_sub {W : Int} {R : List Rc} {w h : Int} {s s' : Int → Int → Prop} {o : Option (Int × Int)} (hb : Bst W R w h s o) (hs : ∀ a b, s' a b → s a b) : Bst W R w h s' o := by
  cases o with
  | none => exact fun x y hxy => hb x y (hs x y hxy)
  | some p => exact ⟨hb.1, fun x y hxy => hb.2 x y (hs x y hxy)⟩
end Go.Proofs.Ytoidhlackoigkaa
