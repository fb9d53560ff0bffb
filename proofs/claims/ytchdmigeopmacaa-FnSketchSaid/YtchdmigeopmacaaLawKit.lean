/-
  What the laws of sketches share: rows held against one another, written over, held.
-/
import Derived.Test.YtchdmigeopmacaaGlue
namespace Go.Proofs.Ytchdmigeopmacaa
open Go.ChangeShapes Go.WideShapes Go.ChangeAt Go.RowKit
set_option linter.unusedVariables false
set_option linter.unusedSimpArgs false

/-- where a slice that came lies -/
def At (w : World) (u : Option Addr) (q n : Nat) (L : List Int) : Prop := n ≠ 0 → u = some ⟨q, 0, none⟩ ∧ q < w.heap.size ∧ IntsAt w q 0 L
theorem At.of_below {B : Nat} {w w' : World} {u : Option Addr} {q n : Nat} {L : List Int} (h : At w u q n L) (hB : w.heap.size ≤ B) (hb : Below w.heap.size w w') : At w' u q n L :=
  fun hn => ⟨(h hn).1, Nat.lt_of_lt_of_le (h hn).2.1 hb.size, (h hn).2.2.below hb (h hn).2.1⟩
theorem Sl.at {w : World} {v : Value} {n : Nat} {L : List Int} (h : Sl w v n L) : ∃ u q cap, v = .slice u n cap ∧ At w u q n L := by
  obtain ⟨u, cap, hv, hf⟩ := h
  by_cases h0 : n = 0
  · exact ⟨u, 0, cap, hv, fun h => absurd h0 h⟩
  · obtain ⟨g, h1, h2, h3⟩ := hf h0
    exact ⟨u, g, cap, hv, fun _ => ⟨h1, h2, h3⟩⟩
theorem rowAt {w : World} {B t k n cap : Nat} {u : Option Addr} {L : List Int} (h : Row w B t k (.slice u n cap) n L) : ∃ q, At w u q n L := by
  obtain ⟨u', q, cap', hv, ha⟩ := h.sl.at
  cases hv
  exact ⟨q, ha⟩
theorem Row.nil_any {w w' : World} {B t k n : Nat} {L : List Int} (h : Row w B t k (.slice none 0 0) n L) : Row w' B t k (.slice none 0 0) n L := by
  refine ⟨h.1, ?_⟩
  rcases h.2 with h1 | ⟨g, cap, cur, hv, r⟩
  · exact .inl h1
  · cases hv
theorem Row.same {w w' : World} {B t k n : Nat} {v : Value} {L : List Int} (h : Row w B t k v n L) (hs : Same w w') : Row w' B t k v n L := h.kept (B' := 0) (fun g _ => by rw [hs.heap])
theorem Row.two {w w' : World} {B t k n g : Nat} {v : Value} {L : List Int} (h : Row w B t k v n L) (hs : Two g g w w') (hB : g < B) : Row w' B t k v n L :=
  h.kept (B' := 0) (fun b hb => by have := World.ownsRow.lt h b hb; exact hs.block b this.2 (by omega) (by omega))
theorem coreGo_len (bad : List Nat → Bool) : ∀ (k : Nat) (ks : List Nat), (coreGo bad k ks).length ≤ ks.length := by
  intro k
  induction k with
  | zero => intro ks; exact Nat.le_refl _
  | succ k ih =>
    intro ks
    unfold coreGo
    split
    · have h1 := ih (ks.eraseIdx k)
      have h2 : (ks.eraseIdx k).length ≤ ks.length := by rw [List.length_eraseIdx]; split <;> omega
      omega
    · exact ih ks
theorem outN_le (n : Int) (rs : List Ru) : outN n rs ≤ 24 := by
  unfold outN
  split
  · rename_i h
    have := ok_parts h
    split <;> omega
  · omega
theorem outK_le (n : Int) (rs : List Ru) : (outK n rs).length ≤ 60 := by
  unfold outK
  split
  · rename_i h
    have := ok_parts h
    split
    · simp
    · have h2 := coreGo_len (badK n.toNat rs) rs.length (List.range rs.length)
      rw [List.length_range] at h2
      omega
  · simp
end Go.Proofs.Ytchdmigeopmacaa
