/-
  Rows of rows of numbers; rows of truth values.
-/
import Derived.Test.YtkkmikgeppkhiaaFdM
namespace Go.Proofs.Ytkkmikgeppkhiaa
open Go.ChangeShapes Go.WideShapes Go.ChangeAt Go.RowKit
set_option linter.unusedVariables false
set_option linter.unusedSimpArgs false

/-- the slice has these numbers -/
def Inn (w : World) (v : Value) (l : List Nat) : Prop := ∃ (u : Option Addr) (c : Nat), v = .slice u l.length c ∧ (l ≠ [] → ∃ g o, u = some ⟨g, o, none⟩ ∧ g < w.heap.size ∧ IntsAt w g o (nats l))
theorem Inn.bel {w w' : World} {v : Value} {l : List Nat} (h : Inn w v l) (hb : Below w.heap.size w w') : Inn w' v l := by
  obtain ⟨u, c, rfl, h1⟩ := h
  refine ⟨u, c, rfl, fun h0 => ?_⟩
  obtain ⟨g, o, rfl, hg, hi⟩ := h1 h0
  exact ⟨g, o, rfl, Nat.lt_of_lt_of_le hg hb.size, hi.below hb hg⟩
theorem nats_len (l : List Nat) : (nats l).length = l.length := by simp [nats]
theorem nats_at {l : List Nat} {i x : Nat} (h : l[i]? = some x) : (nats l)[i]? = some (x : Int) := by simp [nats, h]
theorem Row.inn {w : World} {B t : Nat} {v : Value} {l : List Nat} (h : Row w B t 1 v l.length (nats l)) : Inn w v l := by
  obtain ⟨u, c, rfl, h1⟩ := h.form
  refine ⟨u, c, rfl, fun h0 => ?_⟩
  obtain ⟨g, rfl, _, hg, hi⟩ := h1 (by intro e; exact h0 (List.eq_nil_of_length_eq_zero e))
  exact ⟨g, 0, rfl, hg, hi⟩
/-- the slice has these rows of numbers -/
def NmAt (w : World) (u : Option Addr) (nm : List (List Nat)) : Prop := nm ≠ [] → ∃ g o, u = some ⟨g, o, none⟩ ∧ g < w.heap.size ∧ ∀ i l, nm[i]? = some l → ∃ v, w.cell? ⟨g, o + i, none⟩ = some v ∧ Inn w v l
theorem NmAt.bel {w w' : World} {u : Option Addr} {nm : List (List Nat)} (h : NmAt w u nm) (hb : Below w.heap.size w w') : NmAt w' u nm := by
  intro h0
  obtain ⟨g, o, rfl, hg, hi⟩ := h h0
  refine ⟨g, o, rfl, Nat.lt_of_lt_of_le hg hb.size, fun i l hl => ?_⟩
  obtain ⟨v, hc, hv⟩ := hi i l hl
  exact ⟨v, (hb.cell (p := ⟨g, _, none⟩) hg).trans hc, hv.bel hb⟩
theorem NmAt.at {w : World} {u : Option Addr} {nm : List (List Nat)} (h : NmAt w u nm) {i : Nat} {l : List Nat} (hi : nm[i]? = some l) : ∃ g o, u = some ⟨g, o, none⟩ ∧ ∃ x c, w.cell? ⟨g, o + i, none⟩ = some (.slice x l.length c) ∧ (l ≠ [] → ∃ b q, x = some ⟨b, q, none⟩ ∧ ∀ (k y : Nat), l[k]? = some y → w.cell? ⟨b, q + k, none⟩ = some (.int .i64 (y : Int))) := by
  obtain ⟨g, o, rfl, hg, h1⟩ := h (by intro e; subst e; cases hi)
  obtain ⟨v, hc, x, c, rfl, hx⟩ := h1 i l hi
  refine ⟨g, o, rfl, x, c, hc, fun h0 => ?_⟩
  obtain ⟨b, q, rfl, hb, hI⟩ := hx h0
  exact ⟨b, q, rfl, fun k y hk => hI k _ (nats_at hk)⟩

/-- which numbers are in o, below n -/
def bl (n : Nat) (o : List Nat) : List Value := (List.range n).map fun i => Value.bool (o.contains i)
theorem bl_len (n : Nat) (o : List Nat) : (bl n o).length = n := by simp [bl]
theorem bl_at {n : Nat} {o : List Nat} {i : Nat} (h : i < n) : (bl n o)[i]? = some (.bool (o.contains i)) := by simp [bl, h]
theorem bl_set {n : Nat} {o : List Nat} {i : Nat} (h : i < n) : (bl n o).set i (.bool true) = bl n (o ++ [i]) := by
  apply List.ext_getElem?
  intro j
  by_cases hj : j < n
  · rw [bl_at hj, List.getElem?_set]
    by_cases e : i = j
    · subst e
      simp [h, bl_len]
    · rw [if_neg e, bl_at hj]
      have : (o ++ [i]).contains j = o.contains j := by
        simp only [List.contains_eq_mem, List.mem_append, List.mem_singleton, decide_eq_decide]
        constructor
        · rintro (h | h)
          · exact h
          · exact (e h.symm).elim
        · exact Or.inl
      rw [this]
  · rw [List.getElem?_eq_none (by rw [List.length_set, bl_len]; omega), List.getElem?_eq_none (by rw [bl_len]; omega)]
theorem made_one (z : Value) (n : Nat) : madeCells #[z] n = (List.replicate n z).toArray := by
  apply Array.ext
  · simp [madeCells]
  · intro i h1 h2
    have : i % 1 = 0 := Nat.mod_one i
    simp [madeCells, this]
/-- a made row of one value -/
theorem make_vals {P : Program} (t e bytes n : Nat) (z : Value) (hc : z.cells = #[z]) (ht : P.underlying t = some (.slice e))
    (hi : (P.info? e).map (fun i => (i.zero, i.size, i.bytes)) = some (some z, 1, bytes)) (hb : bytes * n ≤ 281474976710656) (hn : n ≤ 9223372036854775807) (W : World) :
    (Instr.makeSlice t (.int .i64 (n : Int)) (.int .i64 (n : Int))).run P W = .ok (.slice (some ⟨W.heap.size, 0, none⟩) n n) (W.alloc (.cells (List.replicate n z).toArray e)) := by
  obtain ⟨i, hx, h0, h1, h2⟩ := info_parts hi
  have hb' : (i.bytes : Int) * (n : Int) ≤ 281474976710656 := by
    have h3 : ((bytes * n : Nat) : Int) ≤ 281474976710656 := by omega
    rw [h2]
    rwa [Int.natCast_mul] at h3
  have := run_make (P := P) W t e i z ht hx h0 .i64 .i64 n n (by omega) (by omega) hb' (by omega)
  rw [Int.toNat_natCast, h1, hc, Nat.mul_one, made_one] at this
  exact this
theorem info4 : (Try.prog.info? 4).map (fun i => (i.zero, i.size, i.bytes)) = some (some (.bool false), 1, 1) := by kernel_rfl
theorem bl_nil (n : Nat) : bl n [] = List.replicate n (.bool false) := by
  apply List.ext_getElem?
  intro j
  by_cases hj : j < n
  · rw [bl_at hj]; simp [List.getElem?_replicate, hj]
  · rw [List.getElem?_eq_none (by rw [bl_len]; omega), List.getElem?_eq_none (by simp; omega)]
end Go.Proofs.Ytkkmikgeppkhiaa
