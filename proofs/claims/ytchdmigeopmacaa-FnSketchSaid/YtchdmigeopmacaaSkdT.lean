/-
  Blocks on the way to a drawn sketch.
-/
import Derived.Test.YtchdmigeopmacaaSou
import Derived.Test.YtchdmigeopmacaaKeeps
import Derived.Test.YtchdmigeopmacaaRelax
import Derived.Deep.Cut
import Derived.Deep.CutRange
namespace Go.Proofs.Ytchdmigeopmacaa
open Go.ChangeShapes Go.WideShapes Go.ChangeAt Go.RowKit
set_option linter.unusedVariables false
set_option linter.unusedSimpArgs false

theorem Row.kept' {w w' : World} {B t k n : Nat} {v : Value} {L : List Int} (h : Row w B t k v n L) (hb : ∀ g, v.ownBlock = some g → w'.heap[g]? = w.heap[g]?) : Row w' B t k v n L := by
  refine ⟨h.1, ?_⟩
  rcases h.2 with h1 | ⟨g, cap, cur, hv, hB, hh, r⟩
  · exact .inl h1
  · exact .inr ⟨g, cap, cur, hv, hB, (hb g (by rw [hv]; rfl)).trans hh, r⟩
theorem Row.mv {w w' : World} {B t k n g : Nat} {v : Value} {L : List Int} (h : Row w B t k v n L) (hb : Mv g w w') (hg : g < B) : Row w' B t k v n L :=
  h.kept' (fun b hb' => by have := World.ownsRow.lt h b hb'; exact hb.block b this.2 (by omega))
theorem So.belB {B g C : Nat} {k : Int} {w w' : World} (h : So B g k w) (hb : Below C w w') (hg : g < C) : So B g k w' := by
  have := h.above
  exact h.kept (fun b _ h2 => hb.block b (by omega)) hb.size
theorem Mv.belB {g C : Nat} {w W w' : World} (x : Mv g w W) (hb : Below C W w') (hC : w.heap.size ≤ C) : Mv g w w' :=
  ⟨hb.os.trans x.os, hb.tape.trans x.tape, hb.output.trans x.output, Nat.le_trans x.size hb.size, fun k hk h1 => (hb.block k (by omega)).trans (x.block k hk h1)⟩
theorem info35s : (Try.prog.info? 35).map (fun i => (i.zero, i.size, i.bytes)) = some (some (.agg #[.int .i64 0, .int .i64 0, .int .i64 0, .int .i64 0]), 4, 32) := by kernel_rfl
/-- a rule on the way, in a block of its own -/
structure Rb (D : Nat) (K a b y : Int) (W : World) : Prop where
  c0 : W.cell? ⟨D, 0, none⟩ = some (.int .i64 K)
  c1 : W.cell? ⟨D, 1, none⟩ = some (.int .i64 a)
  c2 : W.cell? ⟨D, 2, none⟩ = some (.int .i64 b)
  c3 : W.cell? ⟨D, 3, none⟩ = some (.int .i64 y)
  f2 : W.frozen? ⟨D, 2, none⟩ = false
  f3 : W.frozen? ⟨D, 3, none⟩ = false
theorem Rb.lt {D : Nat} {K a b y : Int} {W : World} (h : Rb D K a b y W) : D < W.heap.size := cell_lt h.c0
theorem Rb.kept {D : Nat} {K a b y : Int} {W W' : World} (h : Rb D K a b y W) (hb : W'.heap[D]? = W.heap[D]?) : Rb D K a b y W' := by
  have hc : ∀ o, W'.cell? ⟨D, o, none⟩ = W.cell? ⟨D, o, none⟩ := fun o => World.cell?_of_block (w := W) (a := ⟨D, o, none⟩) hb
  exact ⟨(hc 0).trans h.c0, (hc 1).trans h.c1, (hc 2).trans h.c2, (hc 3).trans h.c3, (frozen_of_block hb).trans h.f2, (frozen_of_block hb).trans h.f3⟩
theorem Rb.mv {D g : Nat} {K a b y : Int} {W W' : World} (h : Rb D K a b y W) (mv : Mv g W W') (hD : D ≠ g) : Rb D K a b y W' := h.kept (mv.block D h.lt hD)
theorem Rb.bel {D : Nat} {K a b y : Int} {W W' : World} (h : Rb D K a b y W) (hb : Below W.heap.size W W') : Rb D K a b y W' := h.kept (hb.block D h.lt)
theorem Rb.alloc {D : Nat} {K a b y : Int} {W : World} (h : Rb D K a b y W) (o : Obj) : Rb D K a b y (W.alloc o) := h.bel (ba (Below.refl _ _) o)
theorem Rb.drew {D : Nat} {K a b y : Int} {W : World} (h : Rb D K a b y W) : Rb D K a b y W.drew := h.kept rfl
theorem Rb.dn {D : Nat} {K a b y : Int} {W : World} (h : Rb D K a b y W) (q : Nat) : Rb D K a b y (W.drewN q) := h.kept rfl
theorem Rb.setB {D : Nat} {K a b y : Int} {W : World} (h : Rb D K a b y W) (x : Int) : Rb D K a x y (W.setCell ⟨D, 2, none⟩ (.int .i64 x)) := by
  have h0 := h.c0
  have h1 := h.c1
  have h2 := h.c2
  have h3 := h.c3
  have h4 := h.f2
  have h5 := h.f3
  exact ⟨by simp [go_sem, h0], by simp [go_sem, h1], by simp [go_sem, h2], by simp [go_sem, h3], by simp [go_sem, h4], by simp [go_sem, h5]⟩
theorem Rb.setY {D : Nat} {K a b y : Int} {W : World} (h : Rb D K a b y W) (x : Int) : Rb D K a b x (W.setCell ⟨D, 3, none⟩ (.int .i64 x)) := by
  have h0 := h.c0
  have h1 := h.c1
  have h2 := h.c2
  have h3 := h.c3
  have h4 := h.f2
  have h5 := h.f3
  exact ⟨by simp [go_sem, h0], by simp [go_sem, h1], by simp [go_sem, h2], by simp [go_sem, h3], by simp [go_sem, h4], by simp [go_sem, h5]⟩
theorem row_nil (w : World) (B t k : Nat) : Row w B t k (.slice none 0 0) 0 [] := World.ownsRow_nil _ _ _ _

theorem Two.belB {g T C : Nat} {w W w' : World} (x : Two g T w W) (hb : Below C W w') (hC : w.heap.size ≤ C) : Two g T w w' :=
  ⟨hb.os.trans x.os, hb.tape.trans x.tape, hb.output.trans x.output, Nat.le_trans x.size hb.size, fun k hk h1 h2 => (hb.block k (by omega)).trans (x.block k hk h1 h2)⟩
/-- what a drawn sketch is made of on the way -/
structure Sta (B g T : Nat) (n k : Int) (Wl : World) (v : Value) (m : Nat) (L : List Int) (W : World) : Prop where
  so : So B g k W
  two : Two g T Wl W
  c0 : W.cell? ⟨T, 0, none⟩ = some (.int .i64 n)
  c1 : W.cell? ⟨T, 1, none⟩ = some v
  f1 : W.frozen? ⟨T, 1, none⟩ = false
  row : Row W Wl.heap.size 35 4 v m L
  hg : g < Wl.heap.size
  hT : T < Wl.heap.size
  ne : T ≠ g
  hB : B ≤ T
theorem Sta.up {B g T m : Nat} {n k k' : Int} {Wl W : World} {v : Value} {L : List Int} (h : Sta B g T n k Wl v m L W) (hk : k ≤ k') : Sta B g T n k' Wl v m L W :=
  ⟨h.so.up hk, h.two, h.c0, h.c1, h.f1, h.row, h.hg, h.hT, h.ne, h.hB⟩
theorem Sta.lt {B g T m : Nat} {n k : Int} {Wl W : World} {v : Value} {L : List Int} (h : Sta B g T n k Wl v m L W) : T < W.heap.size := cell_lt h.c0
theorem Sta.mv {B g T m : Nat} {n k k' : Int} {Wl W W' : World} {v : Value} {L : List Int} (h : Sta B g T n k Wl v m L W) (hs : So B g k' W') (mv : Mv g W W') : Sta B g T n k' Wl v m L W' :=
  ⟨hs, h.two.trans ⟨mv.os, mv.tape, mv.output, mv.size, fun k hk h1 _ => mv.block k hk h1⟩, mv.cell h.ne h.c0, mv.cell h.ne h.c1, mv.frz h.ne h.lt h.f1, h.row.mv mv h.hg, h.hg, h.hT, h.ne, h.hB⟩
theorem Sta.bel {B g T m : Nat} {n k : Int} {Wl W W' : World} {v : Value} {L : List Int} (h : Sta B g T n k Wl v m L W) (hb : Below W.heap.size W W') : Sta B g T n k Wl v m L W' := h.mv (h.so.bel hb) (Mv.of_bel hb)
theorem Sta.alloc {B g T m : Nat} {n k : Int} {Wl W : World} {v : Value} {L : List Int} (h : Sta B g T n k Wl v m L W) (o : Obj) : Sta B g T n k Wl v m L (W.alloc o) := h.bel (ba (Below.refl _ _) o)
theorem Sta.drew {B g T m : Nat} {n k : Int} {Wl W : World} {v : Value} {L : List Int} (h : Sta B g T n k Wl v m L W) : Sta B g T n k Wl v m L W.drew := h.bel (Below.drew (Below.refl _ _))
theorem Sta.dn {B g T m : Nat} {n k : Int} {Wl W : World} {v : Value} {L : List Int} (h : Sta B g T n k Wl v m L W) (q : Nat) : Sta B g T n k Wl v m L (W.drewN q) := h.bel ⟨rfl, rfl, rfl, Nat.le_refl _, fun _ _ => rfl⟩
theorem Sta.own {B g T m : Nat} {n k : Int} {Wl W : World} {v : Value} {L : List Int} (h : Sta B g T n k Wl v m L W) : ∀ b, v.ownBlock = some b → b < W.heap.size := fun b hb => (World.ownsRow.lt h.row b hb).2
theorem Sta.set {B g T m : Nat} {n k : Int} {Wl W : World} {v : Value} {L : List Int} (h : Sta B g T n k Wl v m L W) {D : Nat} (hD : Wl.heap.size ≤ D) (hO : ∀ b, v.ownBlock = some b → b < D) (o : Nat) (x : Value) : Sta B g T n k Wl v m L (W.setCell ⟨D, o, none⟩ x) := by
  have h1 := h.hT
  have h2 := h.hg
  have hne : ∀ b, b ≠ D → (W.setCell ⟨D, o, none⟩ x).heap[b]? = W.heap[b]? := fun b hb => Below.heap_setCell _ _ _ _ hb
  exact ⟨h.so.set (by have := h.hB; omega) (by omega) _ _, ⟨h.two.os, h.two.tape, h.two.output, by simpa [World.setCell] using h.two.size, fun k hk a1 a2 => (hne k (by omega)).trans (h.two.block k hk a1 a2)⟩,
    (World.cell?_of_block (w := W) (a := ⟨T, 0, none⟩) (hne T (by omega))).trans h.c0, (World.cell?_of_block (w := W) (a := ⟨T, 1, none⟩) (hne T (by omega))).trans h.c1, (frozen_of_block (hne T (by omega))).trans h.f1,
    h.row.kept' (fun b hb => hne b (by have := hO b hb; omega)), h.hg, h.hT, h.ne, h.hB⟩
/-- behind an append and a store -/
theorem Sta.app {B g T m m' : Nat} {n k : Int} {Wl W w1 : World} {v v' : Value} {L L' : List Int} (h : Sta B g T n k Wl v m L W) (hr : Row w1 Wl.heap.size 35 4 v' m' L') (hb : Below Wl.heap.size W w1) : Sta B g T n k Wl v' m' L' (w1.setCell ⟨T, 1, none⟩ v') := by
  have h1 := h.hT
  have h2 := h.hg
  have h3 := h.ne
  have hne : ∀ b, b ≠ T → (w1.setCell ⟨T, 1, none⟩ v').heap[b]? = w1.heap[b]? := fun b hb => Below.heap_setCell _ _ _ _ hb
  have c0 : w1.cell? ⟨T, 0, none⟩ = some (.int .i64 n) := (hb.cell (p := ⟨T, 0, none⟩) h1).trans h.c0
  have c1 : w1.cell? ⟨T, 1, none⟩ = some v := (hb.cell (p := ⟨T, 1, none⟩) h1).trans h.c1
  have f1 : w1.frozen? ⟨T, 1, none⟩ = false := (hb.frozen (p := ⟨T, 1, none⟩) h1).trans h.f1
  exact ⟨(h.so.belB hb h2).set h.hB h3 _ _, (h.two.belB hb (Nat.le_refl _)).set2 _ _, by simp [go_sem, c0], by simp [go_sem, c1], by simp [go_sem, f1], hr.kept' (fun b hb' => hne b (by have := (World.ownsRow.lt hr b hb').1; omega)), h2, h1, h3, h.hB⟩

end Go.Proofs.Ytchdmigeopmacaa
