/-
  A milling of the model, as it lies in memory.
-/
import Derived.Test.YtjhldjojkaphkaaLow
import Derived.Test.YtjhldjojkaphkaaMkRows
import Derived.Test.YtjhldjojkaphkaaMlRun
namespace Go.Proofs.Ytjhldjojkaphkaa
open Go.ChangeShapes Go.WideShapes Go.ChangeAt Go.RowKit
set_option linter.unusedVariables false
set_option linter.unusedSimpArgs false

/-- all but two blocks is as it was -/
structure Mq (a b : Nat) (w w' : World) : Prop where
  os : w'.os = w.os
  tape : w'.tape = w.tape
  output : w'.output = w.output
  size : w.heap.size ≤ w'.heap.size
  block : ∀ k, k < w.heap.size → k ≠ a → k ≠ b → w'.heap[k]? = w.heap[k]?
theorem Mq.of_bel {a b : Nat} {w w' : World} (h : Below w.heap.size w w') : Mq a b w w' := ⟨h.os, h.tape, h.output, h.size, fun k hk _ _ => h.block k hk⟩
theorem Mq.trans {a b : Nat} {x y z : World} (h : Mq a b x y) (k : Mq a b y z) : Mq a b x z :=
  ⟨k.os.trans h.os, k.tape.trans h.tape, k.output.trans h.output, Nat.le_trans h.size k.size, fun i hi h1 h2 => (k.block i (Nat.lt_of_lt_of_le hi h.size) h1 h2).trans (h.block i hi h1 h2)⟩
theorem Mq.drew {a b : Nat} {x y : World} (h : Mq a b x y) : Mq a b x y.drew := ⟨h.os, h.tape, h.output, h.size, h.block⟩
theorem Mq.setA {a b : Nat} {x y : World} (h : Mq a b x y) (o : Nat) (v : Value) : Mq a b x (y.setCell ⟨a, o, none⟩ v) :=
  h.trans ⟨rfl, rfl, rfl, by simp [World.setCell], fun k _ h1 _ => Below.heap_setCell _ _ _ _ h1⟩
theorem Mq.setB {a b : Nat} {x y : World} (h : Mq a b x y) (o : Nat) (v : Value) : Mq a b x (y.setCell ⟨b, o, none⟩ v) :=
  h.trans ⟨rfl, rfl, rfl, by simp [World.setCell], fun k _ _ h2 => Below.heap_setCell _ _ _ _ h2⟩
theorem Mq.ints {a b g po : Nat} {x y : World} {T : List Int} (h : Mq a b x y) (k : IntsAt x g po T) (hg : g < x.heap.size) (h1 : g ≠ a) (h2 : g ≠ b) : IntsAt y g po T :=
  fun j v hj => (World.cell?_of_block (w := x) (a := ⟨g, po + j, none⟩) (h.block g hg h1 h2)).trans (k j v hj)
/-- a milling under way, as it lies in memory -/
def rnV (W H : Int) (g po n c : Nat) (r : Int) (f : Bool) (ax ay az : Int) (q cap : Nat) (s : Ml) : List Value :=
  [.int .i64 W, .int .i64 H, .slice (some ⟨g, po, none⟩) n c, .int .i64 r, .bool f, .int .i64 ax, .int .i64 ay, .int .i64 az, .int .i64 W, .int .i64 H, .slice (some ⟨q, 0, none⟩) n cap, .int .i64 s.cut, .int .i64 s.air, .int .i64 s.dep]
structure Rn (X : World) (B M : Nat) (W H : Int) (g po n c : Nat) (P : List Int) (r : Int) (f : Bool) (ax ay az : Int) (q cap : Nat) (s : Ml) : Prop where
  v : vb X M 76 (rnV W H g po n c r f ax ay az q cap s)
  row : Row X B 3 1 (.slice (some ⟨q, 0, none⟩) n cap) n s.T
  lt : g < X.heap.size
  part : IntsAt X g po P
theorem Rn.bel {X X' : World} {B M : Nat} {W H : Int} {g po n c : Nat} {P : List Int} {r : Int} {f : Bool} {ax ay az : Int} {q cap : Nat} {s : Ml} (h : Rn X B M W H g po n c P r f ax ay az q cap s) (hb : Below X.heap.size X X') : Rn X' B M W H g po n c P r f ax ay az q cap s :=
  ⟨h.v.bel hb, h.row.below hb, Nat.lt_of_lt_of_le h.lt hb.size, h.part.below hb h.lt⟩
theorem Rn.drew {X : World} {B M : Nat} {W H : Int} {g po n c : Nat} {P : List Int} {r : Int} {f : Bool} {ax ay az : Int} {q cap : Nat} {s : Ml} (h : Rn X B M W H g po n c P r f ax ay az q cap s) : Rn X.drew B M W H g po n c P r f ax ay az q cap s := ⟨h.v, h.row, h.lt, h.part⟩
theorem Rn.dn {X : World} {B M : Nat} {W H : Int} {g po n c : Nat} {P : List Int} {r : Int} {f : Bool} {ax ay az : Int} {q cap : Nat} {s : Ml} (h : Rn X B M W H g po n c P r f ax ay az q cap s) (k : Nat) : Rn (X.drewN k) B M W H g po n c P r f ax ay az q cap s := ⟨h.v, h.row, h.lt, h.part⟩
theorem Mq.dn {a b : Nat} {x y : World} (h : Mq a b x y) (k : Nat) : Mq a b x (y.drewN k) := ⟨h.os, h.tape, h.output, h.size, h.block⟩
theorem Same.dn {a w : World} (h : Same a w) (n : Nat) : Same a (w.drewN n) := ⟨h.os, h.tape, h.output, h.heap⟩
theorem Rn.same {X X' : World} {B M : Nat} {W H : Int} {g po n c : Nat} {P : List Int} {r : Int} {f : Bool} {ax ay az : Int} {q cap : Nat} {s : Ml} (h : Rn X B M W H g po n c P r f ax ay az q cap s) (hb : Same X X') : Rn X' B M W H g po n c P r f ax ay az q cap s := h.bel hb.bel
theorem Rn.setCut {X : World} {B M : Nat} {W H : Int} {g po n c : Nat} {P : List Int} {r : Int} {f : Bool} {ax ay az : Int} {q cap : Nat} {s : Ml} (h : Rn X B M W H g po n c P r f ax ay az q cap s) (hq : M ≠ q) (hg : g ≠ M) (v : Int) : Rn (X.setCell ⟨M, 11, none⟩ (.int .i64 v)) B M W H g po n c P r f ax ay az q cap ⟨s.T, v, s.air, s.dep⟩ :=
  ⟨h.v.set 11 _, h.row.kept' (fun b hb => by simp only [Value.ownBlock, Option.some.injEq] at hb; subst hb; exact Below.heap_setCell _ _ _ _ (Ne.symm hq)), by simpa [World.setCell] using h.lt, fun j x hj => (World.cell?_of_block (w := X) (a := ⟨g, po + j, none⟩) (Below.heap_setCell _ _ _ _ hg)).trans (h.part j x hj)⟩
theorem Rn.setAir {X : World} {B M : Nat} {W H : Int} {g po n c : Nat} {P : List Int} {r : Int} {f : Bool} {ax ay az : Int} {q cap : Nat} {s : Ml} (h : Rn X B M W H g po n c P r f ax ay az q cap s) (hq : M ≠ q) (hg : g ≠ M) (v : Int) : Rn (X.setCell ⟨M, 12, none⟩ (.int .i64 v)) B M W H g po n c P r f ax ay az q cap ⟨s.T, s.cut, v, s.dep⟩ :=
  ⟨h.v.set 12 _, h.row.kept' (fun b hb => by simp only [Value.ownBlock, Option.some.injEq] at hb; subst hb; exact Below.heap_setCell _ _ _ _ (Ne.symm hq)), by simpa [World.setCell] using h.lt, fun j x hj => (World.cell?_of_block (w := X) (a := ⟨g, po + j, none⟩) (Below.heap_setCell _ _ _ _ hg)).trans (h.part j x hj)⟩
theorem Rn.setDep {X : World} {B M : Nat} {W H : Int} {g po n c : Nat} {P : List Int} {r : Int} {f : Bool} {ax ay az : Int} {q cap : Nat} {s : Ml} (h : Rn X B M W H g po n c P r f ax ay az q cap s) (hq : M ≠ q) (hg : g ≠ M) (v : Int) : Rn (X.setCell ⟨M, 13, none⟩ (.int .i64 v)) B M W H g po n c P r f ax ay az q cap ⟨s.T, s.cut, s.air, v⟩ :=
  ⟨h.v.set 13 _, h.row.kept' (fun b hb => by simp only [Value.ownBlock, Option.some.injEq] at hb; subst hb; exact Below.heap_setCell _ _ _ _ (Ne.symm hq)), by simpa [World.setCell] using h.lt, fun j x hj => (World.cell?_of_block (w := X) (a := ⟨g, po + j, none⟩) (Below.heap_setCell _ _ _ _ hg)).trans (h.part j x hj)⟩
theorem Rn.setTop {X : World} {B M : Nat} {W H : Int} {g po n c : Nat} {P : List Int} {r : Int} {f : Bool} {ax ay az : Int} {q cap : Nat} {s : Ml} (h : Rn X B M W H g po n c P r f ax ay az q cap s) (hq : M ≠ q) (hg : g ≠ q) (i : Nat) (hi : i < n) (v : Int) : Rn (X.setCell ⟨q, i, none⟩ (.int .i64 v)) B M W H g po n c P r f ax ay az q cap ⟨s.T.set i v, s.cut, s.air, s.dep⟩ :=
  ⟨h.v.ne hq, h.row.set i (by omega) v, by simpa [World.setCell] using h.lt, fun j x hj => (World.cell?_of_block (w := X) (a := ⟨g, po + j, none⟩) (Below.heap_setCell _ _ _ _ hg)).trans (h.part j x hj)⟩
theorem ints_ne {X : World} {ql o : Nat} {L : List Int} (h : IntsAt X ql 0 L) (b : Nat) (v : Value) (hb : ql ≠ b) : IntsAt (X.setCell ⟨b, o, none⟩ v) ql 0 L := h.blk (Below.heap_setCell _ _ _ _ hb)
theorem ints_dr {X : World} {ql : Nat} {L : List Int} (h : IntsAt X ql 0 L) : IntsAt X.drew ql 0 L := h
theorem ints_dn {X : World} {ql : Nat} {L : List Int} (h : IntsAt X ql 0 L) (k : Nat) : IntsAt (X.drewN k) ql 0 L := h
theorem Rn.drop {X : World} {B M : Nat} {W H : Int} {g po n c : Nat} {P : List Int} {r : Int} {f : Bool} {ax ay az : Int} {q cap : Nat} {s : Ml} (h : Rn X B M W H g po n c P r f ax ay az q cap s) (k : Nat) : Rn (X.drewN k) B M W H g po n c P r f ax ay az q cap s := h.dn k
theorem hi_lt_take {T : List Int} {z : Int} {cs : List Nat} {i c : Nat} (h : cs[i]? = some c) : z < hi T (cs.take (i + 1)) ↔ z < hi T (cs.take i) ∨ z < tp T c := by
  rw [hi_take T h]
  omega
end Go.Proofs.Ytjhldjojkaphkaa
