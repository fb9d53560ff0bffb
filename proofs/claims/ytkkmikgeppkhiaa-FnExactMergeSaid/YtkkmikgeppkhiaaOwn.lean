/-
  Rows of numbers that a call makes by append.
-/
import Derived.Test.YtkkmikgeppkhiaaMakes
import Derived.Laws.AppendOwn
import Derived.OwnWalk
namespace Go.Proofs.Ytkkmikgeppkhiaa
open Go.ChangeShapes Go.WideShapes Go.ChangeAt Go.RowKit
set_option linter.unusedVariables false
set_option linter.unusedSimpArgs false

theorem add_none (p po j : Nat) : (⟨p, po, none⟩ : Addr).add j = ⟨p, po + j, none⟩ := by
  unfold Addr.add
  split <;> simp_all
/-- the slice is the call's own: n elements of k numbers each -/
def Row (w : World) (B t k : Nat) (v : Value) (n : Nat) (L : List Int) : Prop := w.ownsRow B t k v n (L.map (Value.int .i64))
theorem Row.len {w : World} {B t k : Nat} {v : Value} {n : Nat} {L : List Int} (h : Row w B t k v n L) : L.length = n * k := by have := h.1; simpa using this
theorem Row.form {w : World} {B t k : Nat} {v : Value} {n : Nat} {L : List Int} (h : Row w B t k v n L) :
    ∃ (u : Option Addr) (cap : Nat), v = .slice u n cap ∧ (n ≠ 0 → ∃ g, u = some ⟨g, 0, none⟩ ∧ B ≤ g ∧ g < w.heap.size ∧ IntsAt w g 0 L) := by
  rcases h.2 with ⟨rfl, rfl⟩ | ⟨g, cap, cur, rfl, hb, hh, hn, hm, hs, ht⟩
  · exact ⟨none, 0, rfl, fun h => absurd rfl h⟩
  · refine ⟨_, cap, rfl, fun _ => ⟨g, rfl, hb, (Array.getElem?_eq_some_iff.1 hh).1, ?_⟩⟩
    intro j x hj
    have h1 : (cur.toList.take (n * k))[j]? = some (Value.int .i64 x) := by rw [ht, List.getElem?_map, hj]; rfl
    simp only [World.cell?]
    rw [hh]
    rw [List.getElem?_take] at h1
    split at h1
    · rw [Nat.zero_add]; simpa using h1
    · cases h1
theorem Row.below {w w' : World} {B t k : Nat} {v : Value} {n : Nat} {L : List Int} (h : Row w B t k v n L) (hb : Below w.heap.size w w') : Row w' B t k v n L := by
  refine ⟨h.1, ?_⟩
  rcases h.2 with h1 | ⟨g, cap, cur, hv, hB, hh, r⟩
  · exact .inl h1
  · exact .inr ⟨g, cap, cur, hv, hB, (hb.block g (Array.getElem?_eq_some_iff.1 hh).1).trans hh, r⟩
theorem Row.mono {w : World} {B B' t k : Nat} {v : Value} {n : Nat} {L : List Int} (h : Row w B t k v n L) (hb : B' ≤ B) : Row w B' t k v n L := by
  refine ⟨h.1, ?_⟩
  rcases h.2 with h1 | ⟨g, cap, cur, hv, hB, r⟩
  · exact .inl h1
  · exact .inr ⟨g, cap, cur, hv, Nat.le_trans hb hB, r⟩
theorem row_made (w : World) (t B k : Nat) (hb : B ≤ w.heap.size) (g : Nat) (hg : g = w.heap.size) : Row (w.alloc (.cells #[] t)) B t k (.slice (some ⟨g, 0, none⟩) 0 0) 0 [] := by
  subst hg
  exact World.ownsRow_made w #[] 0 hb (by decide) (by simp)
/-- behind an append -/
theorem own_more {B t k n m : Nat} {wr W2 w1 : World} {v v' : Value} {L news : List Int} (hbel : Below B wr W2) (hB : B ≤ W2.heap.size) (hown : Row wr B t k v n L)
    (hown' : w1.ownsRow B t k v' (n + m) (L.map (Value.int .i64) ++ news.map (Value.int .i64))) (hgrow : W2.grownBy w1 v.ownBlock) :
    Row w1 B t k v' (n + m) (L ++ news) ∧ Below B wr w1 :=
  ⟨by unfold Row; rw [List.map_append]; exact hown', hbel.grown hgrow hB (fun j hj => (hown.lt j hj).1)⟩
theorem news_cells {W : World} {e : TypeId} (news : List Value) (g : Nat) (hg : g = W.heap.size) : ∀ (j : Nat) (u : Value), news[j]? = some u → (W.alloc (.cells news.toArray e)).cell? ((⟨g, 0, none⟩ : Addr).add j) = some u := by
  subst hg
  intro j u hj
  rw [add_none, Nat.zero_add]
  simp only [World.cell?]
  rw [heap_alloc_new]
  simp [hj]
theorem news_drew {W : World} {e : TypeId} (news : List Value) (g : Nat) (hg : g = W.heap.size) : ∀ (j : Nat) (u : Value), news[j]? = some u → (W.alloc (.cells news.toArray e)).drew.cell? ((⟨g, 0, none⟩ : Addr).add j) = some u := news_cells news g hg
theorem ints_one {L : List Int} : ∀ u ∈ L.map (Value.int .i64), u.oneCell' = true := by
  intro u hu
  obtain ⟨x, _, rfl⟩ := List.mem_map.1 hu
  rfl
theorem Row.full {w : World} {B t k : Nat} {v : Value} {n : Nat} {L : List Int} (h : Row w B t k v n L) (hn : n ≠ 0) :
    ∃ g cap, v = .slice (some ⟨g, 0, none⟩) n cap ∧ B ≤ g ∧ g < w.heap.size ∧ IntsAt w g 0 L ∧ n ≤ cap ∧ cap ≤ 9223372036854775807 := by
  obtain ⟨u, cap, hv, hf⟩ := h.form
  obtain ⟨g, rfl, h1, h2, h3⟩ := hf hn
  refine ⟨g, cap, hv, h1, h2, h3, ?_⟩
  rcases h.2 with ⟨h4, h5⟩ | ⟨g', cap', cur, h4, _, _, h7, h8, _⟩
  · exact absurd h5 hn
  · rw [h4] at hv
    cases hv
    exact ⟨h7, by unfold maxLen at h8; omega⟩
/-- behind an append onto what was just made and is empty -/
theorem Row.kept' {w w' : World} {B t k n : Nat} {v : Value} {L : List Int} (h : Row w B t k v n L) (hb : ∀ g, v.ownBlock = some g → w'.heap[g]? = w.heap[g]?) : Row w' B t k v n L := by
  refine ⟨h.1, ?_⟩
  rcases h.2 with h1 | ⟨g, cap, cur, hv, hB, hh, r⟩
  · exact .inl h1
  · exact .inr ⟨g, cap, cur, hv, hB, (hb g (by rw [hv]; rfl)).trans hh, r⟩
/-- a number of a row -/
def gt (a : List Int) (i : Nat) : Int := a.getD i 0
theorem gtk_some {a : List Int} {i : Nat} (h : i < a.length) : a[i]? = some (gt a i) := by
  unfold gt
  rw [List.getD_eq_getElem?_getD, List.getElem?_eq_getElem h]
  rfl
theorem wrap_i {x : Int} (h1 : -9223372036854775808 ≤ x) (h2 : x ≤ 9223372036854775807) : IntKind.i64.wrap x = x := by
  simp only [IntKind.wrap, IntKind.bits, IntKind.signed]
  simp
  omega
noncomputable def regOf (id : Nat) : Go.Code → Option Go.Code
  | .region i ops b => if i = id then some (.region i ops b) else none
  | .seq a b => match regOf id a with | some c => some c | none => regOf id b
  | .cond _ a b => match regOf id a with | some c => some c | none => regOf id b
  | .block _ c => regOf id c
  | .loop c => regOf id c
  | .scope c => regOf id c
  | _ => none
/-- only an end in order -/
def Only (K : Act → World → Prop) : Exit → Act → World → Prop := fun e a w => match e with | .normal => K a w | _ => False
theorem Only.to {K : Act → World → Prop} {Q : Exit → Act → World → Prop} (h : ∀ a w, K a w → Q .normal a w) : ∀ e a w, Only K e a w → Q e a w := by
  intro e a w hq
  cases e <;> first | exact h _ _ hq | exact hq.elim
theorem pair_c0 {W : World} {q t : Nat} {a b : Value} (h : W.heap[q]? = some (.cells #[a, b] t)) : W.cell? ⟨q, 0, none⟩ = some a := by simp [World.cell?, h]
theorem pair_c1 {W : World} {q t : Nat} {a b : Value} (h : W.heap[q]? = some (.cells #[a, b] t)) : W.cell? ⟨q, 1, none⟩ = some b := by simp [World.cell?, h]
theorem pair_f {W : World} {q t : Nat} {a b : Value} (h : W.heap[q]? = some (.cells #[a, b] t)) (o : Nat) : W.frozen? ⟨q, o, none⟩ = false := by simp [World.frozen?, h]
theorem pair_set0 {W : World} {q t : Nat} {a b x : Value} (h : W.heap[q]? = some (.cells #[a, b] t)) : (W.setCell ⟨q, 0, none⟩ x).heap[q]? = some (.cells #[x, b] t) := by
  show (W.heap.modify q _)[q]? = _
  rw [Array.getElem?_modify, if_pos rfl, h]
  simp
theorem pair_set1 {W : World} {q t : Nat} {a b x : Value} (h : W.heap[q]? = some (.cells #[a, b] t)) : (W.setCell ⟨q, 1, none⟩ x).heap[q]? = some (.cells #[a, x] t) := by
  show (W.heap.modify q _)[q]? = _
  rw [Array.getElem?_modify, if_pos rfl, h]
  simp
theorem pair_set {W : World} {q t : Nat} {a b x y : Value} (h : W.heap[q]? = some (.cells #[a, b] t)) : ((W.setCell ⟨q, 0, none⟩ x).setCell ⟨q, 1, none⟩ y).heap[q]? = some (.cells #[x, y] t) := pair_set1 (pair_set0 h)
end Go.Proofs.Ytkkmikgeppkhiaa
