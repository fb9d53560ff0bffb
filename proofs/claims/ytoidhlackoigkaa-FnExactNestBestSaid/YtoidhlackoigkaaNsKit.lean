/-
  What the laws of nests have in hand.
-/
import Derived.Test.YtoidhlackoigkaaSpRw
import Derived.Test.YtoidhlackoigkaaPlRw
import Derived.Test.YtoidhlackoigkaaNsMm
namespace Go.Proofs.Ytoidhlackoigkaa
open Go.ChangeShapes Go.WideShapes Go.ChangeAt Go.RowKit
set_option linter.unusedVariables false
set_option linter.unusedSimpArgs false

def bo (u : Option Addr) : Nat := match u with | some a => a.block | none => 0
theorem own_sl {X : World} {B M c : Nat} {u : Option Addr} {L : List Ld} (h : X.ownsRow B 61 4 (.slice u M c) M (flatG spC L)) (hl : L.length = M) : Sps X u (bo u) 0 L := by
  intro h0
  obtain ⟨u', c', hv, _, _, hf⟩ := own_form h
  cases hv
  obtain ⟨g, rfl, h1, h2, h3⟩ := hf (by intro e; subst e; exact h0 (List.eq_nil_of_length_eq_zero hl))
  refine ⟨rfl, h2, fun i a hi j v hj => ?_⟩
  rw [Nat.zero_add]
  exact h3 _ _ (flatG_at spC_len hi hj)
/-- the program's row: in a block of its own -/
def Prw (X : World) (B M gg : Nat) (u : Option Addr) (F : List Value) : Prop := M ≠ 0 → u = some ⟨gg, 0, none⟩ ∧ vb X gg 61 F ∧ B ≤ gg
theorem Prw.bel {X X' : World} {B M gg : Nat} {u : Option Addr} {F : List Value} (h : Prw X B M gg u F) (hb : Below X.heap.size X X') : Prw X' B M gg u F := fun h0 => ⟨(h h0).1, (h h0).2.1.bel hb, (h h0).2.2⟩
theorem Prw.sl {X : World} {B M gg : Nat} {u : Option Addr} {L : List Ld} (h : Prw X B M gg u (flatG spC L)) (hl : L.length = M) : Sps X u gg 0 L := by
  intro h0
  obtain ⟨h1, h2, _⟩ := h (by intro e; subst e; exact h0 (List.eq_nil_of_length_eq_zero hl))
  exact ⟨h1, h2.lt, h2.atG spC_len⟩
/-- both answers, and the block that was handed in -/
structure Bs (w : World) (g0 B2 : Nat) (uw ug : Option Addr) (M cw gg : Nat) (L : List Ld) (F : List Value) (X : World) : Prop where
  bel : Below w.heap.size w X
  rw : X.ownsRow w.heap.size 61 4 (.slice uw M cw) M (flatG spC L)
  rg : Prw X B2 M gg ug F
  ow : ∀ b, (Value.slice uw M cw).ownBlock = some b → b < g0
  o0 : w.heap.size ≤ g0
  o1 : g0 < B2
theorem Bs.next {w : World} {g0 B2 : Nat} {uw ug : Option Addr} {M cw gg : Nat} {L : List Ld} {F : List Value} {X X' : World} (h : Bs w g0 B2 uw ug M cw gg L F X) (hb : Below X.heap.size X X') : Bs w g0 B2 uw ug M cw gg L F X' :=
  ⟨bc h.bel hb, own_bel h.rw hb, h.rg.bel hb, h.ow, h.o0, h.o1⟩
theorem Bs.mk0 {w : World} {g0 B2 : Nat} {uw ug : Option Addr} {M cw gg : Nat} {L : List Ld} {F : List Value} {X X' : World} (h : Bs w g0 B2 uw ug M cw gg L F X) (hb : But g0 X X') : Bs w g0 B2 uw ug M cw gg L F X' :=
  ⟨h.bel.trans (hb.bel h.o0), own_kept h.rw (fun b e => hb.block b (by have := h.ow b e; omega)), fun h0 => ⟨(h.rg h0).1, (hb.block gg (by have := (h.rg h0).2.2; have := h.o1; omega)).trans (h.rg h0).2.1, (h.rg h0).2.2⟩, h.ow, h.o0, h.o1⟩
theorem Bs.mkG {w : World} {g0 B2 : Nat} {uw ug : Option Addr} {M cw gg : Nat} {L : List Ld} {F F' : List Value} {X X' : World} (h : Bs w g0 B2 uw ug M cw gg L F X) (hb : But gg X X') (hz : M = 0 → But g0 X X') (hr : M ≠ 0 → vb X' gg 61 F') : Bs w g0 B2 uw ug M cw gg L F' X' := by
  by_cases hM : M = 0
  · have := h.mk0 (hz hM)
    exact ⟨this.bel, this.rw, fun h0 => absurd hM h0, h.ow, h.o0, h.o1⟩
  · have hg := (h.rg hM).2.2
    have h1 := h.o1
    have h2 := h.o0
    exact ⟨h.bel.trans (hb.bel (by omega)), own_kept h.rw (fun b e => hb.block b (by have := h.ow b e; omega)), fun h0 => ⟨(h.rg h0).1, hr h0, (h.rg h0).2.2⟩, h.ow, h.o0, h.o1⟩
end Go.Proofs.Ytoidhlackoigkaa
