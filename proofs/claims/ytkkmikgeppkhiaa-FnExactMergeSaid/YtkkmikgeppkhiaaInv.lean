/-
  A law for a statement that draws the order of its operations: an invariant over which of them have come up. Each operation is looked at once, whatever came ahead of it.
-/
import Derived.Test.YtkkmikgeppkhiaaBase
import Derived.Deep.DrawnRows
namespace Go.Proofs.Ytkkmikgeppkhiaa
open Go.ChangeShapes Go.WideShapes Go.ChangeAt Go.RowKit
set_option linter.unusedVariables false

/-- each operation waits for earlier ones alone -/
def forward (ops : Array Oper) : Bool := (List.range ops.size).all fun i => ((ops[i]?).map (·.after.all fun e => decide (e.on < i))).getD true
/-- each operation that has not come up and waits for none leads from the invariant to the invariant -/
def RSteps (P : Program) (ops : Array Oper) (Q : Exit → Act → World → Prop) (I : Array Bool → Act → World → Prop) (listed : Array Bool) (a : Act) (w : World) : Nat → List Oper → Prop
  | _, [] => True
  | i, o :: rest => (listed.getD i true = false → (o.after.all fun e => !Region.binds .any e || listed.getD e.on false) = true →
      ∀ K' : Act → World → Prop, Hid (∀ a' w', I (listed.setIfInBounds i true) a' w' → K' a' w') → if Region.wanted o (yielded ops a.tmps) = true then Oper.wp P o a w K' Q else K' (a.put o.dst undef) w) ∧ RSteps P ops Q I listed a w (i + 1) rest
section
variable {P : Program} {ops : Array Oper} {Q : Exit → Act → World → Prop} {I : Array Bool → Act → World → Prop}
theorem RSteps.at {listed : Array Bool} {a : Act} {w : World} : ∀ (l : List Oper) (k i : Nat) (o : Oper), RSteps P ops Q I listed a w k l → l[i]? = some o → listed.getD (k + i) true = false →
    (o.after.all fun e => !Region.binds .any e || listed.getD e.on false) = true →
    ∀ K' : Act → World → Prop, Hid (∀ a' w', I (listed.setIfInBounds (k + i) true) a' w' → K' a' w') → if Region.wanted o (yielded ops a.tmps) = true then Oper.wp P o a w K' Q else K' (a.put o.dst undef) w := by
  intro l
  induction l with
  | nil => intro k i o _ h; simp at h
  | cons x l ih =>
    intro k i o h hi
    cases i with
    | zero => simp at hi; subst hi; exact h.1
    | succ i =>
      have := ih (k + 1) i o h.2 (by simpa using hi)
      rw [show k + 1 + i = k + (i + 1) by omega] at this
      exact this
theorem count_set : ∀ (l : List Bool) (i : Nat), l[i]? = some false → (l.set i true).count false + 1 = l.count false
  | [], i, h => by simp at h
  | x :: l, 0, h => by simp at h; subst h; simp
  | x :: l, i + 1, h => by
    have := count_set l i (by simpa using h)
    simp only [List.set_cons_succ, List.count_cons]
    omega
theorem count_none {l : List Bool} (h : l.count false = 0) {i : Nat} (hi : i < l.length) : l[i]? = some true := by
  rw [List.count_eq_zero] at h
  rw [List.getElem?_eq_getElem hi]
  cases hx : l[i] with
  | true => rfl
  | false => exact absurd (hx ▸ List.getElem_mem hi) h
theorem wpAny_inv (hfw : forward ops = true)
    (hstep : ∀ listed a w, I listed a w → RSteps P ops Q I listed a w 0 ops.toList)
    (hend : ∀ listed a w, I listed a w → listed = Array.replicate ops.size true → Q .normal a w) :
    ∀ (n : Nat) (listed : Array Bool) (a : Act) (w : World), listed.size = ops.size → listed.toList.count false ≤ n → I listed a w → wpAny P .any ops Q n listed a w := by
  have alltrue : ∀ listed : Array Bool, listed.size = ops.size → (∀ i, i < ops.size → listed.getD i true = true) → listed = Array.replicate ops.size true := by
    intro listed hs h
    apply Array.ext
    · simp [hs]
    · intro i h1 h2
      have := h i (by omega)
      simp [h1] at this
      simp [this]
  have fin : ∀ listed : Array Bool, listed.size = ops.size → Region.ready .any ops listed = [] → listed = Array.replicate ops.size true := by
    intro listed hs hr
    refine alltrue listed hs ?_
    intro i
    induction i using Nat.strongRecOn with
    | _ i ih =>
      intro hi
      cases hl : listed.getD i true with
      | true => rfl
      | false =>
        have : i ∈ Region.ready .any ops listed := by
          rw [mem_ready]
          refine ⟨hl, ops[i], Array.getElem?_eq_getElem hi, fun e he hb => ?_⟩
          have hlt : e.on < i := by
            have h1 := hfw
            unfold forward at h1
            rw [List.all_eq_true] at h1
            have h2 := h1 i (by simpa using hi)
            rw [Array.getElem?_eq_getElem hi] at h2
            simp only [Option.map_some, Option.getD_some, Array.all_eq_true_iff_forall_mem] at h2
            simpa using h2 e he
          have h3 := ih e.on hlt (by omega)
          have : e.on < listed.size := by omega
          simp [this] at h3 ⊢
          exact h3
        rw [hr] at this
        cases this
  intro n
  induction n with
  | zero =>
    intro listed a w hs hc hI
    have e : listed = Array.replicate ops.size true := by
      refine alltrue listed hs fun i hi => ?_
      have := count_none (l := listed.toList) (by omega) (i := i) (by simp; omega)
      rw [Array.getElem?_toList] at this
      simp [this]
    refine ⟨?_, hend _ _ _ hI e⟩
    rw [e]
    apply List.eq_nil_iff_forall_not_mem.2
    intro i hi
    rw [mem_ready] at hi
    obtain ⟨h0, o, ho, _⟩ := hi
    have : i < ops.size := (Array.getElem?_eq_some_iff.1 ho).1
    simp [this] at h0
  | succ n ih =>
    intro listed a w hs hc hI
    refine ⟨fun hr => hend _ _ _ hI (fin listed hs hr), fun i hi => ?_⟩
    obtain ⟨h0, o, ho, hall⟩ := mem_ready.1 hi
    have hlt : i < listed.size := by
      have := (Array.getElem?_eq_some_iff.1 ho).1
      omega
    have hst := RSteps.at ops.toList 0 i o (hstep _ _ _ hI) (by rw [Array.getElem?_toList]; exact ho) (by rw [Nat.zero_add]; exact h0) (by
      rw [Array.all_eq_true_iff_forall_mem]
      intro e he
      cases hb : Region.binds .any e
      · rfl
      · rw [hall e he hb]; rfl)
    rw [Nat.zero_add] at hst
    refine wpOp_step ho (fun K' hK => hst K' (fun a' w' h => hK a' w' (ih _ a' w' (by simpa using hs) ?_ h)))
    rw [Array.toList_setIfInBounds]
    have := count_set listed.toList i (by
      rw [Array.getElem?_toList]
      simp [hlt] at h0 ⊢
      exact h0)
    omega
/-- the statement, by an invariant -/
theorem wp_region_inv {id : Nat} {a : Act} {w : World} (I : Array Bool → Act → World → Prop) (hm : P.follows .mixedOrders = true) (hfw : forward ops = true)
    (h0 : I (Array.replicate ops.size false) a w.drew)
    (hstep : ∀ listed a w, I listed a w → RSteps P ops Q I listed a w 0 ops.toList)
    (hend : ∀ listed a w, I listed a w → listed = Array.replicate ops.size true → Q .normal a w) : (Code.region id ops true).wp P Q a w := by
  refine wp_region_any hm (wpAny_inv hfw hstep hend _ _ _ _ (by simp) ?_ h0)
  simp
end

/-! ### Blocks of one's own that come one after another, in whatever order -/
/-- one block: whether it is there, its number, its cells, its type -/
abbrev Box := Bool × Nat × Array Value × TypeId
def boxIs (W : World) (B : Nat) (x : Box) : Prop := x.1 = true → B ≤ x.2.1 ∧ W.heap[x.2.1]? = some (.cells x.2.2.1 x.2.2.2 (0, 0))
/-- the blocks that are there lie from B on, no two at one place -/
def Boxes (W : World) (B : Nat) (l : List Box) : Prop :=
  (∀ (i : Nat) (x : Box), l[i]? = some x → boxIs W B x) ∧ ∀ (i j : Nat) (x y : Box), l[i]? = some x → l[j]? = some y → x.1 = true → y.1 = true → x.2.1 = y.2.1 → i = j
theorem Boxes.below {W W' : World} {B : Nat} {l : List Box} (h : Boxes W B l) (hb : Below W.heap.size W W') : Boxes W' B l := by
  refine ⟨fun i x hx ht => ⟨(h.1 i x hx ht).1, ?_⟩, h.2⟩
  have := (h.1 i x hx ht).2
  exact (hb.block _ (Array.getElem?_eq_some_iff.1 this).1).trans this
theorem Boxes.drew {W : World} {B : Nat} {l : List Box} (h : Boxes W B l) : Boxes W.drew B l := h
theorem Boxes.alloc {W : World} {B : Nat} {l : List Box} (h : Boxes W B l) (o : Obj) : Boxes (W.alloc o) B l := by
  refine ⟨fun i x hx ht => ⟨(h.1 i x hx ht).1, ?_⟩, h.2⟩
  have h1 := (h.1 i x hx ht).2
  have h2 := (Array.getElem?_eq_some_iff.1 h1).1
  show (W.heap.push o)[x.2.1]? = _
  rw [Array.getElem?_push_lt h2, ← h1, Array.getElem?_eq_getElem h2]
/-- a block more -/
theorem Boxes.more {W : World} {B : Nat} {l : List Box} (i : Nat) (h : Boxes W B l) {p : Nat} {cs : Array Value} {t : TypeId} (hi : l[i]? = some (false, p, cs, t)) (hB : B ≤ W.heap.size) :
    Boxes (W.alloc (.cells cs t)) B (l.set i (true, W.heap.size, cs, t)) := by
  have hlt : i < l.length := (List.getElem?_eq_some_iff.1 hi).1
  constructor
  · intro j x hx
    by_cases hj : i = j
    · subst hj
      rw [List.getElem?_set_self hlt] at hx
      cases hx
      intro _
      refine ⟨hB, ?_⟩
      show (W.heap.push _)[W.heap.size]? = _
      rw [Array.getElem?_push_size]
    · rw [List.getElem?_set_ne hj] at hx
      exact (h.alloc _).1 j x hx
  · have old : ∀ (j : Nat) (x : Box), l[j]? = some x → x.1 = true → x.2.1 < W.heap.size := fun j x hx ht => (Array.getElem?_eq_some_iff.1 (h.1 j x hx ht).2).1
    intro j k x y hx hy tx ty he
    by_cases hj : i = j <;> by_cases hk : i = k
    · omega
    · subst hj
      rw [List.getElem?_set_self hlt] at hx
      rw [List.getElem?_set_ne hk] at hy
      cases hx
      have := old k y hy ty
      simp at he
      omega
    · subst hk
      rw [List.getElem?_set_self hlt] at hy
      rw [List.getElem?_set_ne hj] at hx
      cases hy
      have := old j x hx tx
      simp at he
      omega
    · rw [List.getElem?_set_ne hj] at hx
      rw [List.getElem?_set_ne hk] at hy
      exact h.2 j k x y hx hy tx ty he
/-- a cell of one of them is written -/
theorem Boxes.put {W : World} {B : Nat} {l : List Box} (i : Nat) (h : Boxes W B l) {p : Nat} {cs : Array Value} {t : TypeId} (hi : l[i]? = some (true, p, cs, t)) (o : Nat) (v : Value) :
    Boxes (W.setCell ⟨p, o, none⟩ v) B (l.set i (true, p, cs.setIfInBounds o v, t)) := by
  have hlt : i < l.length := (List.getElem?_eq_some_iff.1 hi).1
  have hs := h.1 i _ hi rfl
  have hp := (Array.getElem?_eq_some_iff.1 hs.2).1
  constructor
  · intro j x hx
    by_cases hj : i = j
    · subst hj
      rw [List.getElem?_set_self hlt] at hx
      cases hx
      intro _
      refine ⟨hs.1, ?_⟩
      show (W.heap.modify p _)[p]? = _
      rw [Array.getElem?_modify, if_pos rfl, hs.2]
      rfl
    · rw [List.getElem?_set_ne hj] at hx
      intro ht
      refine ⟨(h.1 j x hx ht).1, ?_⟩
      have hne : p ≠ x.2.1 := fun e => hj (h.2 i j _ x hi hx rfl ht e)
      show (W.heap.modify p _)[x.2.1]? = _
      rw [Array.getElem?_modify, if_neg hne]
      exact (h.1 j x hx ht).2
  · intro j k x y hx hy tx ty he
    have back : ∀ (j : Nat) (x : Box), (l.set i (true, p, cs.setIfInBounds o v, t))[j]? = some x → ∃ x', l[j]? = some x' ∧ x'.1 = x.1 ∧ x'.2.1 = x.2.1 := by
      intro j x hx
      by_cases hj : i = j
      · subst hj
        rw [List.getElem?_set_self hlt] at hx
        cases hx
        exact ⟨_, hi, rfl, rfl⟩
      · rw [List.getElem?_set_ne hj] at hx
        exact ⟨x, hx, rfl, rfl⟩
    obtain ⟨x', hx', a1, a2⟩ := back j x hx
    obtain ⟨y', hy', c1, c2⟩ := back k y hy
    exact h.2 j k x' y' hx' hy' (a1.trans tx) (c1.trans ty) (a2.trans (he.trans c2.symm))
theorem Boxes.cell {W : World} {B : Nat} {l : List Box} (i : Nat) (h : Boxes W B l) {p : Nat} {cs : Array Value} {t : TypeId} (hi : l[i]? = some (true, p, cs, t)) (o : Nat) {v : Value} (hv : cs[o]? = some v) : W.cell? ⟨p, o, none⟩ = some v := by
  have hs := (h.1 i _ hi rfl).2
  simp only [World.cell?]
  rw [hs]
  exact hv
theorem Boxes.frozen {W : World} {B : Nat} {l : List Box} (i : Nat) (h : Boxes W B l) {p : Nat} {cs : Array Value} {t : TypeId} (hi : l[i]? = some (true, p, cs, t)) (o : Nat) : W.frozen? ⟨p, o, none⟩ = false := by
  have hs := (h.1 i _ hi rfl).2
  simp only [World.frozen?]
  rw [hs]
  simp
theorem Boxes.le {W : World} {B : Nat} {l : List Box} (i : Nat) (h : Boxes W B l) {p : Nat} {cs : Array Value} {t : TypeId} (hi : l[i]? = some (true, p, cs, t)) : B ≤ p ∧ p < W.heap.size :=
  ⟨(h.1 i _ hi rfl).1, (Array.getElem?_eq_some_iff.1 (h.1 i _ hi rfl).2).1⟩
end Go.Proofs.Ytkkmikgeppkhiaa
