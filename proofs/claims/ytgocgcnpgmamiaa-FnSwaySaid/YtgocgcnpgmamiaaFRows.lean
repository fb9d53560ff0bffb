/-
  Rows of floating numbers in memory: where they lie, what is written over, what is made and filled.
-/
import Derived.Test.YtgocgcnpgmamiaaFlLeaf
import Derived.Test.YtgocgcnpgmamiaaRowX
namespace Go.Proofs.Ytgocgcnpgmamiaa
open Go.ChangeShapes Go.WideShapes Go.ChangeAt Go.RowKit
set_option linter.unusedVariables false
set_option linter.unusedSimpArgs false
variable {fk : FloatKind}

/-- numbers one after another, as floating ones -/
def fmarks (fk : FloatKind) (k : Int) (m : Nat) : List Nat := (marks k m).map (floatOfInt fk)
theorem fmarks_len (k : Int) (m : Nat) : (fmarks fk k m).length = m := by simp [fmarks, marks_len]
theorem fmarks_at (k : Int) (m j : Nat) (h : j < m) : (fmarks fk k m)[j]? = some (floatOfInt fk (k + (j : Int))) := by simp [fmarks, marks_at k m j h]
theorem fmarks_succ (k : Int) (m : Nat) : fmarks fk k (m + 1) = fmarks fk k m ++ [floatOfInt fk (k + (m : Int))] := by simp [fmarks, marks_succ]
/-- the numbers lie in the cells from off on -/
def FltsAt (fk : FloatKind) (w : World) (b off : Nat) (L : List Nat) : Prop := ∀ (j : Nat) (x : Nat), L[j]? = some x → w.cell? ⟨b, off + j, none⟩ = some (.float fk x)
/-- the block is just these numbers -/
def fblk (fk : FloatKind) (w : World) (g t : Nat) (L : List Nat) : Prop := w.heap[g]? = some (.cells (L.map (Value.float fk)).toArray t (0, 0))
theorem fblk.ints {w : World} {g t : Nat} {L : List Nat} (h : fblk fk w g t L) : FltsAt fk w g 0 L := by
  intro j x hj
  simp only [World.cell?]
  rw [h]
  simp [hj]
theorem fblk.cell {w : World} {g t : Nat} {L : List Nat} (h : fblk fk w g t L) {m : Nat} {x : Nat} (hx : L[m]? = some x) : w.cell? ⟨g, m, none⟩ = some (.float fk x) := by
  simp only [World.cell?]
  rw [h]
  simp [hx]
theorem fblk.lt {w : World} {g t : Nat} {L : List Nat} (h : fblk fk w g t L) : g < w.heap.size := (Array.getElem?_eq_some_iff.1 h).1
theorem fblk.frozen {w : World} {g t : Nat} {L : List Nat} (h : fblk fk w g t L) (o : Nat) : w.frozen? ⟨g, o, none⟩ = false := by
  simp only [World.frozen?]
  rw [h]
  simp
theorem fblk.below {B : Nat} {w w' : World} {g t : Nat} {L : List Nat} (h : fblk fk w g t L) (hb : Below B w w') (hg : g < B) : fblk fk w' g t L := (hb.block g hg).trans h
theorem fblk.bel {w w' : World} {g t : Nat} {L : List Nat} (h : fblk fk w g t L) (hb : Below w.heap.size w w') : fblk fk w' g t L := h.below hb h.lt
theorem fblk.set {w : World} {g t : Nat} {L : List Nat} (h : fblk fk w g t L) (m : Nat) (x : Nat) : fblk fk (w.setCell ⟨g, m, none⟩ (.float fk x)) g t (L.set m x) := by
  show (w.heap.modify g _)[g]? = _
  rw [Array.getElem?_modify, if_pos rfl, h]
  simp [List.map_set]
theorem FltsAt.below {B : Nat} {w w' : World} {b off : Nat} {L : List Nat} (h : FltsAt fk w b off L) (hb : Below B w w') (hB : b < B) : FltsAt fk w' b off L :=
  fun j x hj => (hb.cell (p := ⟨b, _, none⟩) hB).trans (h j x hj)
theorem FltsAt.at {w : World} {b off : Nat} {L : List Nat} (h : FltsAt fk w b off L) {k i f : Nat} {x : Nat} (hj : L[i * k + f]? = some x) : w.cell? ⟨b, off + i * k + f, none⟩ = some (.float fk x) := by
  have := h (i * k + f) x hj
  rw [← Nat.add_assoc] at this
  exact this
theorem FltsAt.at0 {w : World} {b off : Nat} {L : List Nat} (h : FltsAt fk w b off L) {k i : Nat} {x : Nat} (hj : L[i * k]? = some x) : w.cell? ⟨b, off + i * k, none⟩ = some (.float fk x) := h (i * k) x hj

/-- nothing is changed but that an order was drawn -/
theorem fblk.but {w w' : World} {g g' t : Nat} {L : List Nat} (h : fblk fk w g t L) (hb : But g' w w') (hg : g ≠ g') : fblk fk w' g t L := (hb.block g hg).trans h
theorem fmarks_step (k : Int) (L : List Nat) (m : Nat) (h : m < L.length) (x : Nat) (hx : x = floatOfInt fk (k + (m : Int))) : (fmarks fk k m ++ L.drop m).set m x = fmarks fk k (m + 1) ++ L.drop (m + 1) := by
  subst hx
  rw [fmarks_succ, List.append_assoc]
  have e : (fmarks fk k m ++ L.drop m).set m (floatOfInt fk (k + (m : Int))) = fmarks fk k m ++ (L.drop m).set 0 (floatOfInt fk (k + (m : Int))) := by
    rw [List.set_append, if_neg (by rw [fmarks_len]; omega), fmarks_len, Nat.sub_self]
  rw [e]
  congr 1
  rw [List.drop_eq_getElem_cons h]
  rfl
theorem fmarks_drop1 (k : Int) (L : List Nat) (m f : Nat) (h : m + f < L.length) : (fmarks fk k m ++ L.drop m)[m + f]? = some L[m + f] := by
  rw [List.getElem?_append_right (by rw [fmarks_len]; omega), fmarks_len, show m + f - m = f by omega, List.getElem?_drop, List.getElem?_eq_getElem h]
theorem fat_of {L : List Nat} {n k i f : Nat} (hl : L.length = n * k) (h : i < n) (hf : f < k) : ∃ x, L[i * k + f]? = some x :=
  ⟨L[i * k + f]'(by rw [hl]; exact mul_lt_of h hf), List.getElem?_eq_getElem _⟩
/-- cells of whole numbers that are 0 -/
def fzeros (m : Nat) : List Nat := List.replicate m 0
theorem made_fzeros (k m : Nat) (hk : 0 < k) : madeCells (Array.replicate k (.float fk 0)) m = ((fzeros m).map (Value.float fk)).toArray := by
  apply Array.ext
  · simp [madeCells, fzeros]
  · intro i h1 h2
    have hi : i < m := by simpa [madeCells] using h1
    have hm : i % k < k := Nat.mod_lt _ hk
    simp [madeCells, fzeros, hm]
theorem make_flts {P : Program} (t e k bytes n : Nat) (ht : P.underlying t = some (.slice e)) (z : Value) (hz : z.cells = Array.replicate k (.float fk 0)) (hk : 0 < k)
    (hi : (P.info? e).map (fun i => (i.zero, i.size, i.bytes)) = some (some z, k, bytes)) (hb : bytes * n ≤ 281474976710656) (hn : n ≤ 9223372036854775807) (W : World) :
    (Instr.makeSlice t (.int .i64 (n : Int)) (.int .i64 (n : Int))).run P W = .ok (.slice (some ⟨W.heap.size, 0, none⟩) n n) (W.alloc (.cells ((fzeros (n * k)).map (Value.float fk)).toArray e)) := by
  cases hx : P.info? e with
  | none => rw [hx] at hi; simp at hi
  | some i =>
    rw [hx] at hi
    simp only [Option.map_some, Option.some.injEq, Prod.mk.injEq] at hi
    obtain ⟨h0, h1, h2⟩ := hi
    have hb' : (i.bytes : Int) * (n : Int) ≤ 281474976710656 := by
      have h3 : ((bytes * n : Nat) : Int) ≤ 281474976710656 := by omega
      rw [h2]
      rwa [Int.natCast_mul] at h3
    have := run_make (P := P) W t e i z ht hx h0 .i64 .i64 n n (by omega) (by omega) hb' (by omega)
    rw [Int.toNat_natCast, h1, hz, made_fzeros k _ hk] at this
    exact this
theorem fblk_new (W : World) (t : Nat) (L : List Nat) : fblk fk (W.alloc (.cells (L.map (Value.float fk)).toArray t)) W.heap.size t L := by
  show (W.heap.push _)[W.heap.size]? = _
  rw [Array.getElem?_push_size]
theorem ffill_step (L : List Nat) (m : Nat) (h : m < L.length) (x : Nat) (hx : L[m]? = some x) : (L.take m ++ fzeros (L.length - m)).set m x = L.take (m + 1) ++ fzeros (L.length - (m + 1)) := by
  have hl : (L.take m).length = m := by simp; omega
  rw [List.set_append, if_neg (by omega), hl, Nat.sub_self, List.take_add_one, hx]
  have e : L.length - m = (L.length - (m + 1)) + 1 := by omega
  rw [e, fzeros, List.replicate_succ]
  simp [fzeros]
theorem ffill_at (L : List Nat) (m f : Nat) (h : m + f < L.length) : (L.take m ++ fzeros (L.length - m))[m + f]? = some 0 := by
  have hl : (L.take m).length = m := by simp; omega
  rw [List.getElem?_append_right (by omega), hl, show m + f - m = f by omega, fzeros, List.getElem?_replicate, if_pos (by omega)]
/-- the slice is the call's own: n elements of k numbers each -/
def FRow (fk : FloatKind) (w : World) (B t k : Nat) (v : Value) (n : Nat) (L : List Nat) : Prop := w.ownsRow B t k v n (L.map (Value.float fk))
theorem FRow.len {w : World} {B t k : Nat} {v : Value} {n : Nat} {L : List Nat} (h : FRow fk w B t k v n L) : L.length = n * k := by have := h.1; simpa using this
theorem FRow.form {w : World} {B t k : Nat} {v : Value} {n : Nat} {L : List Nat} (h : FRow fk w B t k v n L) :
    ∃ (u : Option Addr) (cap : Nat), v = .slice u n cap ∧ (n ≠ 0 → ∃ g, u = some ⟨g, 0, none⟩ ∧ B ≤ g ∧ g < w.heap.size ∧ FltsAt fk w g 0 L) := by
  rcases h.2 with ⟨rfl, rfl⟩ | ⟨g, cap, cur, rfl, hb, hh, hn, hm, hs, ht⟩
  · exact ⟨none, 0, rfl, fun h => absurd rfl h⟩
  · refine ⟨_, cap, rfl, fun _ => ⟨g, rfl, hb, (Array.getElem?_eq_some_iff.1 hh).1, ?_⟩⟩
    intro j x hj
    have h1 : (cur.toList.take (n * k))[j]? = some (Value.float fk x) := by rw [ht, List.getElem?_map, hj]; rfl
    simp only [World.cell?]
    rw [hh]
    rw [List.getElem?_take] at h1
    split at h1
    · rw [Nat.zero_add]; simpa using h1
    · cases h1
theorem FRow.below {w w' : World} {B t k : Nat} {v : Value} {n : Nat} {L : List Nat} (h : FRow fk w B t k v n L) (hb : Below w.heap.size w w') : FRow fk w' B t k v n L := by
  refine ⟨h.1, ?_⟩
  rcases h.2 with h1 | ⟨g, cap, cur, hv, hB, hh, r⟩
  · exact .inl h1
  · exact .inr ⟨g, cap, cur, hv, hB, (hb.block g (Array.getElem?_eq_some_iff.1 hh).1).trans hh, r⟩
theorem FRow.mono {w : World} {B B' t k : Nat} {v : Value} {n : Nat} {L : List Nat} (h : FRow fk w B t k v n L) (hb : B' ≤ B) : FRow fk w B' t k v n L := by
  refine ⟨h.1, ?_⟩
  rcases h.2 with h1 | ⟨g, cap, cur, hv, hB, r⟩
  · exact .inl h1
  · exact .inr ⟨g, cap, cur, hv, Nat.le_trans hb hB, r⟩
theorem frow_made (w : World) (t B k : Nat) (hb : B ≤ w.heap.size) (g : Nat) (hg : g = w.heap.size) : FRow fk (w.alloc (.cells #[] t)) B t k (.slice (some ⟨g, 0, none⟩) 0 0) 0 [] := by
  subst hg
  exact World.ownsRow_made w #[] 0 hb (by decide) (by simp)
/-- behind an append -/
theorem fown_more {B t k n m : Nat} {wr W2 w1 : World} {v v' : Value} {L news : List Nat} (hbel : Below B wr W2) (hB : B ≤ W2.heap.size) (hown : FRow fk wr B t k v n L)
    (hown' : w1.ownsRow B t k v' (n + m) (L.map (Value.float fk) ++ news.map (Value.float fk))) (hgrow : W2.grownBy w1 v.ownBlock) :
    FRow fk w1 B t k v' (n + m) (L ++ news) ∧ Below B wr w1 :=
  ⟨by unfold FRow; rw [List.map_append]; exact hown', hbel.grown hgrow hB (fun j hj => (hown.lt j hj).1)⟩
theorem flts_one {L : List Nat} : ∀ u ∈ L.map (Value.float fk), u.oneCell' = true := by
  intro u hu
  obtain ⟨x, _, rfl⟩ := List.mem_map.1 hu
  rfl
theorem FRow.full {w : World} {B t k : Nat} {v : Value} {n : Nat} {L : List Nat} (h : FRow fk w B t k v n L) (hn : n ≠ 0) :
    ∃ g cap, v = .slice (some ⟨g, 0, none⟩) n cap ∧ B ≤ g ∧ g < w.heap.size ∧ FltsAt fk w g 0 L ∧ n ≤ cap ∧ cap ≤ 9223372036854775807 := by
  obtain ⟨u, cap, hv, hf⟩ := h.form
  obtain ⟨g, rfl, h1, h2, h3⟩ := hf hn
  refine ⟨g, cap, hv, h1, h2, h3, ?_⟩
  rcases h.2 with ⟨h4, h5⟩ | ⟨g', cap', cur, h4, _, _, h7, h8, _⟩
  · exact absurd h5 hn
  · rw [h4] at hv
    cases hv
    exact ⟨h7, by unfold maxLen at h8; omega⟩
/-- behind an append onto what was just made and is empty -/
theorem FRow.kept' {w w' : World} {B t k n : Nat} {v : Value} {L : List Nat} (h : FRow fk w B t k v n L) (hb : ∀ g, v.ownBlock = some g → w'.heap[g]? = w.heap[g]?) : FRow fk w' B t k v n L := by
  refine ⟨h.1, ?_⟩
  rcases h.2 with h1 | ⟨g, cap, cur, hv, hB, hh, r⟩
  · exact .inl h1
  · exact .inr ⟨g, cap, cur, hv, hB, (hb g (by rw [hv]; rfl)).trans hh, r⟩
/-- a number of a row -/
theorem FRow.ints {w : World} {B t k n g cap : Nat} {L : List Nat} (h : FRow fk w B t k (.slice (some ⟨g, 0, none⟩) n cap) n L) : FltsAt fk w g 0 L := by
  intro j x hj
  rcases h.2 with ⟨h1, _⟩ | ⟨g', cap', cur, hv', hB, hh, hn, hx, hs, ht⟩
  · cases h1
  · cases hv'
    have h1 : (cur.toList.take (n * k))[j]? = some (Value.float fk x) := by rw [ht, List.getElem?_map, hj]; rfl
    simp only [World.cell?]
    rw [hh]
    rw [List.getElem?_take] at h1
    split at h1
    · rw [Nat.zero_add]; simpa using h1
    · cases h1
/-- an append as a step of a drawn statement -/
theorem FltsAt.blk {w w' : World} {b : Nat} {L : List Nat} (h : FltsAt fk w b 0 L) (e : w'.heap[b]? = w.heap[b]?) : FltsAt fk w' b 0 L := fun j x hj => (World.cell?_of_block (w := w) (a := ⟨b, 0 + j, none⟩) e).trans (h j x hj)
theorem FRow.set {w : World} {B t k g n cap : Nat} {L : List Nat} (h : FRow fk w B t k (.slice (some ⟨g, 0, none⟩) n cap) n L) (j : Nat) (hj : j < n * k) (x : Nat) :
    FRow fk (w.setCell ⟨g, j, none⟩ (.float fk x)) B t k (.slice (some ⟨g, 0, none⟩) n cap) n (L.set j x) := by
  refine ⟨by have := h.1; simpa using this, ?_⟩
  rcases h.2 with ⟨h1, h2⟩ | ⟨g', cap', cur, hv, hB, hh, hn, hm, hs, ht⟩
  · cases h1
  · cases hv
    refine .inr ⟨g, cap, cur.setIfInBounds j (.float fk x), rfl, hB, ?_, hn, hm, by simp [hs], ?_⟩
    · show (w.heap.modify g _)[g]? = _
      rw [Array.getElem?_modify, if_pos rfl, hh]
      simp
    · rw [Array.toList_setIfInBounds, List.take_set, ht, List.map_set]
theorem FRow.cellAt {w : World} {B t k g n cap : Nat} {L : List Nat} (h : FRow fk w B t k (.slice (some ⟨g, 0, none⟩) n cap) n L) {j : Nat} {x : Nat} (hj : L[j]? = some x) : w.cell? ⟨g, j, none⟩ = some (.float fk x) := by
  by_cases hn : n = 0
  · subst hn
    have := h.len
    rw [List.getElem?_eq_none (by omega)] at hj
    cases hj
  · obtain ⟨u, cap', hv, hf⟩ := h.form
    cases hv
    obtain ⟨g', hu, _, _, hi⟩ := hf hn
    cases hu
    have := hi j x hj
    rwa [Nat.zero_add] at this
theorem FRow.frz {w : World} {B t k g n cap : Nat} {L : List Nat} (h : FRow fk w B t k (.slice (some ⟨g, 0, none⟩) n cap) n L) (o : Nat) : w.frozen? ⟨g, o, none⟩ = false := by
  rcases h.2 with ⟨h1, h2⟩ | ⟨g', cap', cur, hv, hB, hh, r⟩
  · cases h1
  · cases hv
    simp only [World.frozen?]
    rw [hh]
    simp
theorem FRow.ge {w : World} {B t k g n cap : Nat} {L : List Nat} (h : FRow fk w B t k (.slice (some ⟨g, 0, none⟩) n cap) n L) : B ≤ g := by
  rcases h.2 with ⟨h1, h2⟩ | ⟨g', cap', cur, hv, hB, r⟩
  · cases h1
  · cases hv; exact hB
end Go.Proofs.Ytgocgcnpgmamiaa
