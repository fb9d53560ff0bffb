/-
  Rows of numbers that a call makes: fewer of them, what is written over, an append as a step.
-/
import Derived.Test.YtkkmikgeppkhiaaOwn
namespace Go.Proofs.Ytkkmikgeppkhiaa
open Go.ChangeShapes Go.WideShapes Go.ChangeAt Go.RowKit
set_option linter.unusedVariables false
set_option linter.unusedSimpArgs false

theorem Row.sm {w : World} {B t k n : Nat} {v : Value} {L : List Int} (h : Row w B t k v n L) (hv : v ≠ .slice none 0 0) : ∃ g cap, v = .slice (some ⟨g, 0, none⟩) n cap ∧ B ≤ g ∧ g < w.heap.size ∧ n ≤ cap ∧ cap ≤ maxLen := by
  rcases h.2 with ⟨h1, _⟩ | ⟨g, cap, cur, hv', hB, hh, hn, hx, hs, ht⟩
  · exact absurd h1 hv
  · exact ⟨g, cap, hv', hB, (Array.getElem?_eq_some_iff.1 hh).1, hn, hx⟩
theorem Row.ints {w : World} {B t k n g cap : Nat} {L : List Int} (h : Row w B t k (.slice (some ⟨g, 0, none⟩) n cap) n L) : IntsAt w g 0 L := by
  intro j x hj
  rcases h.2 with ⟨h1, _⟩ | ⟨g', cap', cur, hv', hB, hh, hn, hx, hs, ht⟩
  · cases h1
  · cases hv'
    have h1 : (cur.toList.take (n * k))[j]? = some (Value.int .i64 x) := by rw [ht, List.getElem?_map, hj]; rfl
    simp only [World.cell?]
    rw [hh]
    rw [List.getElem?_take] at h1
    split at h1
    · rw [Nat.zero_add]; simpa using h1
    · cases h1
/-- an append as a step of a drawn statement -/
theorem step_own {P : Program} {w : World} {ops : Array Oper} {o : Oper} {a : Act} {K : Act → World → Prop} {Q : Exit → Act → World → Prop} {E : Prop} (hgd : o.guard = none) (s x : Operand) (t : TypeId)
    (ho : o.op = .call { callee := .builtin .append, args := #[s, x], argTypes := #[t, t] })
    (base : Nat) (e : TypeId) (i : TypeInfo) (z : Value) (size bytes : Nat) (ht : P.underlying t = .some (.slice e)) (hi : P.info? e = .some i) (hz : i.zero = .some z)
    (hsize : i.size = size) (hby : i.bytes = bytes) (hzs : z.cells.size = size) (hsz : 0 < size)
    (v : Value) (n : Nat) (xs : List Value) (hs : a.eval s = v) (hown : w.ownsRow base e size v n xs)
    (ad : Addr) (m c : Nat) (news : List Value) (hx : a.eval x = .slice (.some ad) m c) (hl : news.length = m * size) (hnews : ∀ j u, news[j]? = .some u → w.cell? (ad.add j) = .some u) (h1 : ∀ u ∈ news, u.oneCell' = true)
    (h63 : n + m ≤ maxLen) (hbytes : (n + m) * bytes ≤ 140737488355328) (hbase : base ≤ w.heap.size)
    (h : ∀ v' w', w'.ownsRow base e size v' (n + m) (xs ++ news) → w.grownBy w' v.ownBlock → (v' = .slice none 0 0 ↔ v = .slice none 0 0 ∧ m = 0) → K (a.put o.dst v') w') :
    if Region.wanted o (yielded ops a.tmps) = true then Oper.wp P o a w K Q else E := by
  rw [if_pos (by unfold Region.wanted; rw [hgd])]
  exact wp_append_own w s x t ho base e i z size bytes ht hi hz hsize hby hzs hsz v n xs hs hown ad m c news hx hl hnews h1 h63 hbytes hbase h
theorem src_cells {w : World} {b : Nat} {L : List Int} (h : IntsAt w b 0 L) (M : List Int) (o : Nat) (hM : ∀ j x, M[j]? = .some x → L[o + j]? = .some x) : ∀ (j : Nat) (u : Value), (M.map (Value.int .i64))[j]? = .some u → w.cell? ((⟨b, o, none⟩ : Addr).add j) = .some u := by
  intro j u hj
  rw [List.getElem?_map] at hj
  obtain ⟨x, hx, rfl⟩ := Option.map_eq_some_iff.1 hj
  rw [add_none]
  have := h _ _ (hM j x hx)
  rwa [Nat.zero_add] at this
theorem drop_part (L : List Int) (k : Nat) : ∀ j x, (L.drop k)[j]? = .some x → L[k + j]? = .some x := by
  intro j x hj
  rw [List.getElem?_drop] at hj
  exact hj
theorem own_first {B t k m : Nat} {wr W2 w1 : World} {g : Nat} {v' : Value} {news : List Int} (hbel : Below B wr W2) (hB : B ≤ W2.heap.size) (hg : B ≤ g)
    (hown' : w1.ownsRow B t k v' (0 + m) (([] : List Int).map (Value.int .i64) ++ news.map (Value.int .i64))) (hgrow : W2.grownBy w1 (Value.slice (.some ⟨g, 0, none⟩) 0 0).ownBlock) :
    Row w1 B t k v' m news ∧ Below B wr w1 :=
  ⟨by have := hown'; rw [Nat.zero_add] at this; exact this, hbel.grown hgrow hB (fun j hj => by cases hj; exact hg)⟩
theorem IntsAt.blk {w w' : World} {b : Nat} {L : List Int} (h : IntsAt w b 0 L) (e : w'.heap[b]? = w.heap[b]?) : IntsAt w' b 0 L := fun j x hj => (World.cell?_of_block (w := w) (a := ⟨b, 0 + j, none⟩) e).trans (h j x hj)
theorem Row.set {w : World} {B t k g n cap : Nat} {L : List Int} (h : Row w B t k (.slice (some ⟨g, 0, none⟩) n cap) n L) (j : Nat) (hj : j < n * k) (x : Int) :
    Row (w.setCell ⟨g, j, none⟩ (.int .i64 x)) B t k (.slice (some ⟨g, 0, none⟩) n cap) n (L.set j x) := by
  refine ⟨by have := h.1; simpa using this, ?_⟩
  rcases h.2 with ⟨h1, h2⟩ | ⟨g', cap', cur, hv, hB, hh, hn, hm, hs, ht⟩
  · cases h1
  · cases hv
    refine .inr ⟨g, cap, cur.setIfInBounds j (.int .i64 x), rfl, hB, ?_, hn, hm, by simp [hs], ?_⟩
    · show (w.heap.modify g _)[g]? = _
      rw [Array.getElem?_modify, if_pos rfl, hh]
      simp
    · rw [Array.toList_setIfInBounds, List.take_set, ht, List.map_set]
theorem Row.cellAt {w : World} {B t k g n cap : Nat} {L : List Int} (h : Row w B t k (.slice (some ⟨g, 0, none⟩) n cap) n L) {j : Nat} {x : Int} (hj : L[j]? = some x) : w.cell? ⟨g, j, none⟩ = some (.int .i64 x) := by
  by_cases hn : n = 0
  · subst hn
    have := h.len
    rw [List.getElem?_eq_none (by omega)] at hj
    cases hj
  · obtain ⟨u, cap', hv, hf⟩ := h.form
    cases hv
    obtain ⟨g', hu, _, _, hi⟩ := hf hn
    cases hu
    have := hi j x hj
    rwa [Nat.zero_add] at this
theorem Row.frz {w : World} {B t k g n cap : Nat} {L : List Int} (h : Row w B t k (.slice (some ⟨g, 0, none⟩) n cap) n L) (o : Nat) : w.frozen? ⟨g, o, none⟩ = false := by
  rcases h.2 with ⟨h1, h2⟩ | ⟨g', cap', cur, hv, hB, hh, r⟩
  · cases h1
  · cases hv
    simp only [World.frozen?]
    rw [hh]
    simp
theorem Row.ge {w : World} {B t k g n cap : Nat} {L : List Int} (h : Row w B t k (.slice (some ⟨g, 0, none⟩) n cap) n L) : B ≤ g := by
  rcases h.2 with ⟨h1, h2⟩ | ⟨g', cap', cur, hv, hB, r⟩
  · cases h1
  · cases hv; exact hB
/-- fewer of a row -/
theorem Row.pop {w : World} {B t k g n m cap : Nat} {L : List Int} (h : Row w B t k (.slice (some ⟨g, 0, none⟩) n cap) n L) (hm : m ≤ n) : Row w B t k (.slice (some ⟨g, 0, none⟩) m cap) m (L.take (m * k)) := by
  have hl := h.len
  rcases h.2 with ⟨h1, _⟩ | ⟨g', cap', cur, hv, hB, hh, hn, hx, hs, ht⟩
  · cases h1
  · cases hv
    have hmk : m * k ≤ n * k := Nat.mul_le_mul_right k hm
    refine ⟨by rw [List.length_map, List.length_take, hl]; exact Nat.min_eq_left hmk, .inr ⟨g, cap, cur, rfl, hB, hh, Nat.le_trans hm hn, hx, hs, ?_⟩⟩
    rw [List.map_take, ← ht, List.take_take, Nat.min_eq_left hmk]
theorem info_parts {P : Program} {t : Nat} {z : Value} {k b : Nat} (h : (P.info? t).map (fun i => (i.zero, i.size, i.bytes)) = some (some z, k, b)) : ∃ i, P.info? t = some i ∧ i.zero = some z ∧ i.size = k ∧ i.bytes = b := by
  cases hx : P.info? t with
  | none => rw [hx] at h; simp at h
  | some i =>
    rw [hx] at h
    simp only [Option.map_some, Option.some.injEq, Prod.mk.injEq] at h
    exact ⟨i, rfl, h.1, h.2.1, h.2.2⟩
end Go.Proofs.Ytkkmikgeppkhiaa
