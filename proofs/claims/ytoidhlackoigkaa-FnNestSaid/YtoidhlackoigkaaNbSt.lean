/-
  What the model's search has in hand.
-/
import Derived.Test.YtoidhlackoigkaaNbMath
import Derived.Test.YtoidhlackoigkaaNsMm
namespace Go.Proofs.Ytoidhlackoigkaa
open Go.ChangeShapes Go.WideShapes Go.ChangeAt Go.RowKit
set_option linter.unusedVariables false
set_option linter.unusedSimpArgs false

/-- all but two blocks stay -/
structure Fr2 (a b : Nat) (w w' : World) : Prop where
  os : w'.os = w.os
  tape : w'.tape = w.tape
  output : w'.output = w.output
  size : w.heap.size ≤ w'.heap.size
  block : ∀ k, k < w.heap.size → k ≠ a → k ≠ b → w'.heap[k]? = w.heap[k]?
theorem Fr2.refl (a b : Nat) (w : World) : Fr2 a b w w := ⟨rfl, rfl, rfl, Nat.le_refl _, fun _ _ _ _ => rfl⟩
theorem Fr2.trans {a b : Nat} {u v w : World} (h : Fr2 a b u v) (k : Fr2 a b v w) : Fr2 a b u w :=
  ⟨k.os.trans h.os, k.tape.trans h.tape, k.output.trans h.output, Nat.le_trans h.size k.size, fun i hi h1 h2 => (k.block i (Nat.lt_of_lt_of_le hi h.size) h1 h2).trans (h.block i hi h1 h2)⟩
theorem Fr2.bel {a b : Nat} {w w' : World} (h : Below w.heap.size w w') : Fr2 a b w w' := ⟨h.os, h.tape, h.output, h.size, fun k hk _ _ => h.block k hk⟩
theorem Fr2.set1 {a b : Nat} {u w : World} (h : Fr2 a b u w) (o : Nat) (v : Value) : Fr2 a b u (w.setCell ⟨a, o, none⟩ v) :=
  h.trans ⟨rfl, rfl, rfl, by simp [World.setCell], fun k _ hk _ => Below.heap_setCell _ _ _ _ hk⟩
theorem Fr2.set2 {a b : Nat} {u w : World} (h : Fr2 a b u w) (o : Nat) (v : Value) : Fr2 a b u (w.setCell ⟨b, o, none⟩ v) :=
  h.trans ⟨rfl, rfl, rfl, by simp [World.setCell], fun k _ _ hk => Below.heap_setCell _ _ _ _ hk⟩
theorem Fr2.vb {a b : Nat} {w w' : World} (h : Fr2 a b w w') {g t : Nat} {vs : List Value} (k : vb w g t vs) (ha : g ≠ a) (hb : g ≠ b) : Go.Proofs.Ytoidhlackoigkaa.vb w' g t vs := (h.block g k.lt ha hb).trans k
/-- the best so far, as the model has it -/
def BeS (W : World) (B : Nat) (b : Option (List Ld)) (v : Value) (hi : Int) : Prop := match b with
  | none => hi = -1 ∧ v = .slice none 0 0
  | some L => hi = hgtOf L ∧ 0 ≤ hgtOf L ∧ W.ownsRow B 61 4 v L.length (flatG spC L)
theorem BeS.kept {W W' : World} {B : Nat} {b : Option (List Ld)} {v : Value} {hi : Int} (h : BeS W B b v hi) (hk : ∀ g, v.ownBlock = some g → W'.heap[g]? = W.heap[g]?) : BeS W' B b v hi := by
  cases b with
  | none => exact h
  | some L => exact ⟨h.1, h.2.1, own_kept h.2.2 hk⟩
theorem BeS.lt {W : World} {B : Nat} {b : Option (List Ld)} {v : Value} {hi : Int} (h : BeS W B b v hi) : ∀ g, v.ownBlock = some g → B ≤ g ∧ g < W.heap.size := by
  intro g hg
  cases b with
  | none => rw [h.2] at hg; cases hg
  | some L => exact own_ge h.2.2 g hg
def ints (od : List Nat) : List Int := od.map fun k : Nat => (k : Int)
theorem ints_at {od : List Nat} {i k : Nat} (h : od[i]? = some k) : (ints od)[i]? = some (k : Int) := by simp [ints, h]
theorem ints_len (od : List Nat) : (ints od).length = od.length := by simp [ints]
structure StS (w0 W : World) (Wd : Int) (P : List Pl) (up : Option Addr) (n m cp sB tB : Nat) (od : List Nat) (T : List Bool) (b : Option (List Ld)) (vo ve : Value) (hi : Int) : Prop where
  bel : Below w0.heap.size w0 W
  s : vb W sB 58 [.int .i64 Wd, .slice up n cp, vo, .slice (some ⟨tB, 0, none⟩) n n, ve, .int .i64 hi]
  sge : w0.heap.size ≤ sB
  pn : P.length = n
  om : od.length = m
  ord : Row W w0.heap.size 3 1 vo m (ints od)
  tur : vb W tB 4 (T.map Value.bool)
  tl : T.length = n
  tge : w0.heap.size ≤ tB
  st : sB ≠ tB
  os : vo.ownBlock ≠ some sB
  ot : vo.ownBlock ≠ some tB
  be : BeS W w0.heap.size b ve hi
  bs : ve.ownBlock ≠ some sB
  bt : ve.ownBlock ≠ some tB
  bo : Dj vo ve
theorem StS.on {w0 W W2 : World} {Wd : Int} {P : List Pl} {up : Option Addr} {n m cp sB tB : Nat} {od : List Nat} {T : List Bool} {b : Option (List Ld)} {vo ve : Value} {hi : Int} (h : StS w0 W Wd P up n m cp sB tB od T b vo ve hi) (hb : Below W.heap.size W W2) : StS w0 W2 Wd P up n m cp sB tB od T b vo ve hi :=
  ⟨h.bel.trans (hb.mono h.bel.size), h.s.bel hb, h.sge, h.pn, h.om, h.ord.below hb, h.tur.bel hb, h.tl, h.tge, h.st, h.os, h.ot, h.be.kept (fun g hg => hb.block g (h.be.lt g hg).2), h.bs, h.bt, h.bo⟩
/-- a plate is turned, or not -/
theorem StS.turn {w0 W : World} {Wd : Int} {P : List Pl} {up : Option Addr} {n m cp sB tB : Nat} {od : List Nat} {T : List Bool} {b : Option (List Ld)} {vo ve : Value} {hi : Int} (h : StS w0 W Wd P up n m cp sB tB od T b vo ve hi) (k : Nat) (t : Bool) : StS w0 (W.setCell ⟨tB, k, none⟩ (.bool t)) Wd P up n m cp sB tB od (T.set k t) b vo ve hi := by
  refine ⟨h.bel.setCell h.tge _, h.s.ne h.st, h.sge, h.pn, h.om, ?_, ?_, by rw [List.length_set]; exact h.tl, h.tge, h.st, h.os, h.ot, ?_, h.bs, h.bt, h.bo⟩
  · exact h.ord.kept' (fun g hg => Below.heap_setCell _ _ _ _ (fun e => h.ot (by rw [hg, e])))
  · rw [List.map_set]; exact h.tur.set k _
  · exact h.be.kept (fun g hg => Below.heap_setCell _ _ _ _ (fun e => h.bt (by rw [hg, e])))
/-- a better one -/
theorem StS.better {w0 W V : World} {Wd : Int} {P : List Pl} {up : Option Addr} {n m cp sB tB : Nat} {od : List Nat} {T : List Bool} {b : Option (List Ld)} {vo ve v : Value} {hi : Int} {L : List Ld} (h : StS w0 W Wd P up n m cp sB tB od T b vo ve hi) (h0 : 0 ≤ hgtOf L) (hb : StS w0 V Wd P up n m cp sB tB od T b vo ve hi) (hv : W.ownsRow V.heap.size 61 4 v L.length (flatG spC L)) : StS w0 ((W.setCell ⟨sB, 4, none⟩ v).setCell ⟨sB, 5, none⟩ (.int .i64 (hgtOf L))) Wd P up n m cp sB tB od T (some L) vo v (hgtOf L) := by
  have hg := own_ge hv
  have hs := hb.s.lt
  have ht := hb.tur.lt
  have ho := hb.ord.lt
  refine ⟨(h.bel.setCell h.sge _).setCell h.sge _, (h.s.set 4 _).set 5 _, h.sge, h.pn, h.om, ?_, (h.tur.ne (Ne.symm h.st)).ne (Ne.symm h.st), h.tl, h.tge, h.st, h.os, h.ot, ⟨rfl, h0, own_mono (own_kept hv ?_) hb.bel.size⟩, ?_, ?_, ?_⟩
  · exact h.ord.kept' (fun g hq => (Below.heap_setCell _ _ _ _ (fun e => h.os (by rw [hq, e]))).trans (Below.heap_setCell _ _ _ _ (fun e => h.os (by rw [hq, e]))))
  · intro g hq
    have := (hg g hq).1
    exact (Below.heap_setCell _ _ _ _ (by show g ≠ sB; omega)).trans (Below.heap_setCell _ _ _ _ (by show g ≠ sB; omega))
  · intro e; have := (hg _ e).1; omega
  · intro e; have := (hg _ e).1; omega
  · intro q hq e; have := (hg _ e).1; have := (ho q hq).2; omega
theorem plan_mono {Wd : Int} {P : List Pl} {O : List Int} {T T' : List Bool} {Q : List Itm} (h : PlanOk Wd P O T Q) (hT : T'.take Q.length = T.take Q.length) : PlanOk Wd P O T' Q := by
  intro i q hq
  obtain ⟨k, p, t, h1, h2, h3, h4⟩ := h i q hq
  have hi := (List.getElem?_eq_some_iff.1 hq).1
  refine ⟨k, p, t, h1, h2, ?_, h4⟩
  have e1 := List.getElem?_take_of_lt (l := T') hi
  have e2 := List.getElem?_take_of_lt (l := T) hi
  rw [← e1, hT, e2]
  exact h3
theorem plan_snoc {Wd : Int} {P : List Pl} {O : List Int} {T : List Bool} {Q : List Itm} {k : Nat} {p : Pl} {t : Bool} (h : PlanOk Wd P O T Q) (h1 : O[Q.length]? = some (k : Int)) (h2 : P[k]? = some p) (h3 : T[Q.length]? = some t) (h4 : (1 ≤ p.w ∧ p.w ≤ 1000) ∧ 1 ≤ p.h ∧ p.h ≤ 1000) (h5 : twd t p.w p.h ≤ Wd) : PlanOk Wd P O T (Q ++ [itmT k t p]) := by
  intro i q hq
  by_cases hi : i < Q.length
  · rw [List.getElem?_append_left hi] at hq
    exact h i q hq
  · have h9 := (List.getElem?_eq_some_iff.1 hq).1
    simp at h9
    obtain rfl : i = Q.length := by omega
    rw [List.getElem?_append_right (by omega), Nat.sub_self] at hq
    simp at hq
    subst hq
    exact ⟨k, p, t, h1, h2, h3, rfl, h4, h5⟩
theorem plan_fit {Wd : Int} {P : List Pl} {O : List Int} {T : List Bool} {Q : List Itm} (h : PlanOk Wd P O T Q) : ∀ q ∈ Q, q.w ≤ Wd := by
  intro q hq
  obtain ⟨i, hi⟩ := List.getElem?_of_mem hq
  obtain ⟨k, p, t, _, _, _, rfl, _, h5⟩ := h i q hi
  exact h5
end Go.Proofs.Ytoidhlackoigkaa
