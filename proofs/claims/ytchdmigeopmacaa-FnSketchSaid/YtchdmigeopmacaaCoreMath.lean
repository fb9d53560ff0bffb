/-
  A core: rules dropped from the last one on, if the others still can not all be kept. And an append as a step of a statement that draws its order, of any number of elements.
-/
import Derived.Test.YtchdmigeopmacaaOwn
import Derived.Deep.RegionLaw
namespace Go.Proofs.Ytchdmigeopmacaa
open Go.ChangeShapes Go.WideShapes Go.ChangeAt Go.RowKit
set_option linter.unusedVariables false

theorem step_own {P : Program} {w : World} {ops : Array Oper} {o : Oper} {a : Act} {K : Act → World → Prop} {Q : Exit → Act → World → Prop} {E : Prop} (hgd : o.guard = none) (s x : Operand) (t : TypeId)
    (ho : o.op = .call { callee := .builtin .append, args := #[s, x], argTypes := #[t, t] })
    (base : Nat) (e : TypeId) (i : TypeInfo) (z : Value) (size bytes : Nat) (ht : P.underlying t = some (.slice e)) (hi : P.info? e = some i) (hz : i.zero = some z)
    (hsize : i.size = size) (hby : i.bytes = bytes) (hzs : z.cells.size = size) (hsz : 0 < size)
    (v : Value) (n : Nat) (xs : List Value) (hs : a.eval s = v) (hown : w.ownsRow base e size v n xs)
    (ad : Addr) (m c : Nat) (news : List Value) (hx : a.eval x = .slice (some ad) m c) (hl : news.length = m * size) (hnews : ∀ j u, news[j]? = some u → w.cell? (ad.add j) = some u) (h1 : ∀ u ∈ news, u.oneCell' = true)
    (h63 : n + m ≤ maxLen) (hbytes : (n + m) * bytes ≤ 140737488355328) (hbase : base ≤ w.heap.size)
    (h : ∀ v' w', w'.ownsRow base e size v' (n + m) (xs ++ news) → w.grownBy w' v.ownBlock → (v' = .slice none 0 0 ↔ v = .slice none 0 0 ∧ m = 0) → K (a.put o.dst v') w') :
    if Region.wanted o (yielded ops a.tmps) = true then Oper.wp P o a w K Q else E := by
  have hw : Region.wanted o (yielded ops a.tmps) = true := by simp [Region.wanted, hgd]
  rw [if_pos hw]
  exact wp_append_own w s x t ho base e i z size bytes ht hi hz hsize hby hzs hsz v n xs hs hown ad m c news hx hl hnews h1 h63 hbytes hbase h

theorem Row.full {w : World} {B t k : Nat} {v : Value} {n : Nat} {L : List Int} (h : Row w B t k v n L) (hn : n ≠ 0) :
    ∃ g cap, v = .slice (some ⟨g, 0, none⟩) n cap ∧ B ≤ g ∧ g < w.heap.size ∧ IntsAt w g 0 L ∧ n ≤ cap ∧ cap ≤ 9223372036854775807 := by
  obtain ⟨u, cap, hv, hf⟩ := h.form
  obtain ⟨g, rfl, h1, h2, h3⟩ := hf hn
  refine ⟨g, cap, hv, h1, h2, h3, ?_⟩
  rcases h.2 with ⟨h4, h5⟩ | ⟨g', cap', cur, h4, _, _, h7, h8, _⟩
  · exact absurd h5 hn
  · rw [h4] at hv
    cases hv
    exact ⟨h7, by unfold maxLen at h8; omega⟩
/-- behind an append onto what was just made and is empty -/
theorem own_first {B t k m : Nat} {wr W2 w1 : World} {g : Nat} {v' : Value} {news : List Int} (hbel : Below B wr W2) (hB : B ≤ W2.heap.size) (hg : B ≤ g)
    (hown' : w1.ownsRow B t k v' (0 + m) (([] : List Int).map (Value.int .i64) ++ news.map (Value.int .i64))) (hgrow : W2.grownBy w1 (Value.slice (some ⟨g, 0, none⟩) 0 0).ownBlock) :
    Row w1 B t k v' m news ∧ Below B wr w1 :=
  ⟨by have := hown'; rw [Nat.zero_add] at this; exact this, hbel.grown hgrow hB (fun j hj => by cases hj; exact hg)⟩
theorem IntsAt.alloc {w : World} {b off : Nat} {L : List Int} (h : IntsAt w b off L) (hb : b < w.heap.size) (o : Obj) : IntsAt (w.alloc o) b off L := fun j x hj => ka (h j x hj)
theorem IntsAt.drew {w : World} {b off : Nat} {L : List Int} (h : IntsAt w b off L) : IntsAt w.drew b off L := h
/-- a part of a row, as it is appended -/
theorem src_cells {w : World} {b : Nat} {L : List Int} (h : IntsAt w b 0 L) (M : List Int) (o : Nat) (hM : ∀ j x, M[j]? = some x → L[o + j]? = some x) : ∀ (j : Nat) (u : Value), (M.map (Value.int .i64))[j]? = some u → w.cell? ((⟨b, o, none⟩ : Addr).add j) = some u := by
  intro j u hj
  rw [List.getElem?_map] at hj
  obtain ⟨x, hx, rfl⟩ := Option.map_eq_some_iff.1 hj
  rw [add_none]
  have := h _ _ (hM j x hx)
  rwa [Nat.zero_add] at this
theorem take_part (L : List Int) (k : Nat) : ∀ j x, (L.take k)[j]? = some x → L[0 + j]? = some x := by
  intro j x hj
  rw [List.getElem?_take] at hj
  rw [Nat.zero_add]
  split at hj
  · exact hj
  · cases hj
theorem drop_part (L : List Int) (k : Nat) : ∀ j x, (L.drop k)[j]? = some x → L[k + j]? = some x := by
  intro j x hj
  rwa [List.getElem?_drop] at hj
theorem tail_ad (q ck k n : Nat) (L : List Int) (hl : L.length = n) (hk : k < n) (hc : n ≤ ck) : ∃ ad : Addr, (if ck = k + 1 then some (⟨q, 0, none⟩ : Addr) else some ⟨q, k + 1, none⟩) = some ad ∧
    ∀ W, IntsAt W q 0 L → ∀ (j : Nat) (u : Value), ((L.drop (k + 1)).map (Value.int .i64))[j]? = some u → W.cell? (ad.add j) = some u := by
  by_cases h : ck = k + 1
  · refine ⟨⟨q, 0, none⟩, if_pos h, fun W hW j u hj => ?_⟩
    rw [List.drop_eq_nil_of_le (by omega)] at hj
    cases hj
  · exact ⟨⟨q, k + 1, none⟩, if_neg h, fun W hW => src_cells hW _ (k + 1) (drop_part _ _)⟩
/-- of the first k: the last one is dropped if what is left is bad, and so on -/
def coreGo (bad : List Nat → Bool) : Nat → List Nat → List Nat
  | 0, ks => ks
  | k + 1, ks => if bad (ks.eraseIdx k) = true then coreGo bad k (ks.eraseIdx k) else coreGo bad k ks
theorem nats_len (ks : List Nat) : (nats ks).length = ks.length := by simp [nats]
theorem nats_erase (ks : List Nat) (k : Nat) : nats (ks.eraseIdx k) = (nats ks).take k ++ (nats ks).drop (k + 1) := by
  rw [List.eraseIdx_eq_take_drop_succ]
  simp [nats]
theorem erase_len {ks : List Nat} {k n : Nat} (h : ks.length = n) (hk : k < n) : (ks.eraseIdx k).length = n - 1 := by
  rw [List.length_eraseIdx_of_lt (by omega), h]
theorem erase_mem {ks : List Nat} {k m : Nat} (h : ∀ j ∈ ks, j < m) : ∀ j ∈ ks.eraseIdx k, j < m := fun j hj => h j (List.mem_of_mem_eraseIdx hj)
end Go.Proofs.Ytchdmigeopmacaa
