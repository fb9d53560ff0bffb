/-
  A slice of moves that came in, opened.
-/
import Derived.Test.YtbjljofgpbecbaaMvBase
import Derived.Deep.Slices
import Derived.ChangeSame
namespace Go.Proofs.Ytbjljofgpbecbaa
open Go.ChangeShapes Go.WideShapes Go.ChangeAt Go.RowKit Go.Deep
set_option linter.unusedVariables false
set_option linter.unusedSimpArgs false

/-- a bool, then three whole numbers -/
def moveFields (P : Program) (fs : Array Field) : Bool := (List.range fs.size).all fun j =>
  match fs[j]? with
  | some f => decide (f.offset = j) && decide (P.cellsOf f.type = 1) && (match P.underlying f.type with | some (.int .i64) => decide (j ≠ 0) | some .bool => decide (j = 0) | _ => false)
  | none => false
theorem moveFields_at {P : Program} {fs : Array Field} (h : moveFields P fs = true) {j : Nat} {f : Field} (hf : fs[j]? = some f) : f.offset = j ∧ P.cellsOf f.type = 1 ∧ (if j = 0 then P.underlying f.type = some .bool else P.underlying f.type = some (.int .i64)) := by
  unfold moveFields at h
  rw [List.all_eq_true] at h
  have hj : j < fs.size := (Array.getElem?_eq_some_iff.1 hf).1
  have := h j (by simpa using hj)
  rw [hf] at this
  simp only [Bool.and_eq_true, decide_eq_true_eq] at this
  refine ⟨this.1.1, this.1.2, ?_⟩
  have h2 := this.2
  split at h2
  · have : j ≠ 0 := by simpa using h2
    rw [if_neg this]
    assumption
  · have : j = 0 := by simpa using h2
    rw [if_pos this]
    assumption
  · cases h2
theorem addr_add_none' (p po j : Nat) : (⟨p, po, none⟩ : Addr).add j = ⟨p, po + j, none⟩ := by
  unfold Addr.add
  split <;> simp_all
def boolOf : Value → Bool
  | .bool s => s
  | _ => false
theorem open_moves {H : Type} {enc : TypeId × Value → H} {P : Program} {w : World} {base : Nat} {spare : Nat → Bool} {held : Bool} {t e : TypeId} {fs : Array Field} {fuel : Nat} {cs : List Value} {x : DataW H × List MemPlace}
    (ht : P.underlying t = some (.slice e)) (he : P.underlying e = some (.struct fs)) (ce : P.cellsOf e = 4) (hsz : fs.size = 4) (hf : moveFields P fs = true)
    (h : DataW.trod enc P w base spare held fuel t cs = some x) :
    ∃ (u : Option Addr) (n cap p po : Nat) (ms : List Mve), cs = [.slice u n cap] ∧ n ≤ 9223372036854775807 ∧ ms.length = n ∧ Mvs w u p po ms := by
  rcases open_slice ht h with ⟨rfl, _⟩ | ⟨a, len, cap, m, n, D, Pl, rfl, hb, hl, hm, hmm, _, hx⟩
  · exact ⟨none, 0, 0, 0, 0, [], rfl, by omega, rfl, fun h => absurd rfl h⟩
  have hlm : len ≤ m := by rw [hmm]; split <;> omega
  have each : ∀ i, i < len → ∃ l : Mve, w.cell? (a.add (i * 4)) = some (.bool l.f) ∧ w.cell? (a.add (i * 4 + 1)) = some (.int .i64 l.x) ∧ w.cell? (a.add (i * 4 + 2)) = some (.int .i64 l.y) ∧ w.cell? (a.add (i * 4 + 3)) = some (.int .i64 l.z) := by
    intro i hi
    obtain ⟨cs', h1, h2⟩ := hx i (by omega)
    rw [ce] at h1
    obtain ⟨_, hlen, hcell⟩ := World.cells?_some h1
    obtain ⟨xs, q, _, _, _, hxl, hff⟩ := DataW.trod_struct he h2
    have one : ∀ j, j < 4 → ∃ v, w.cell? (a.add (i * 4 + j)) = some v ∧ (if j = 0 then ∃ s : Bool, v = .bool s else ∃ z : Int, v = .int .i64 z) := by
      intro j hj
      have hfs : fs[j]? = some (fs[j]'(by omega)) := Array.getElem?_eq_getElem _
      obtain ⟨o1, o2, o3⟩ := moveFields_at hf hfs
      have h3 := hff j _ hfs
      rw [List.getElem?_eq_getElem (by omega)] at h3
      by_cases hj0 : j = 0
      · rw [if_pos hj0] at o3
        obtain ⟨y, hy, _⟩ := DataW.trod_bool o3 h3
        rw [o1, o2] at hy
        have h4 : cs'[j]? = some (.bool y) := by
          have h5 : ((cs'.drop j).take 1)[0]? = some (.bool y) := by rw [hy]; rfl
          simpa [List.getElem?_take, List.getElem?_drop] using h5
        refine ⟨.bool y, ?_, ?_⟩
        · rw [← h4, ← hcell j hj, add_add]
        · rw [if_pos hj0]; exact ⟨y, rfl⟩
      · rw [if_neg hj0] at o3
        obtain ⟨y, hy, _, _⟩ := DataW.trod_int o3 h3
        rw [o1, o2] at hy
        have h4 : cs'[j]? = some (.int .i64 y) := by
          have h5 : ((cs'.drop j).take 1)[0]? = some (.int .i64 y) := by rw [hy]; rfl
          simpa [List.getElem?_take, List.getElem?_drop] using h5
        refine ⟨.int .i64 y, ?_, ?_⟩
        · rw [← h4, ← hcell j hj, add_add]
        · rw [if_neg hj0]; exact ⟨y, rfl⟩
    obtain ⟨v0, c0, s, rfl⟩ := one 0 (by omega)
    obtain ⟨v1, c1, z1, rfl⟩ := one 1 (by omega)
    obtain ⟨v2, c2, z2, rfl⟩ := one 2 (by omega)
    obtain ⟨v3, c3, z3, rfl⟩ := one 3 (by omega)
    exact ⟨⟨s, z1, z2, z3⟩, c0, c1, c2, c3⟩
  have hmx : len ≤ 9223372036854775807 := by unfold maxLen at hm; omega
  by_cases hn : len = 0
  · subst hn
    exact ⟨some a, 0, cap, 0, 0, [], rfl, by omega, rfl, fun h => absurd rfl h⟩
  obtain ⟨p, po, sp⟩ := a
  have hsp : sp = none := by
    obtain ⟨l, hy, _⟩ := each 0 (by omega)
    cases sp with
    | none => rfl
    | some s =>
      simp only [Addr.add, World.cell?] at hy
      split at hy <;> simp at hy
  subst hsp
  let rd : Nat → Mve := fun i => ⟨boolOf ((w.cell? ((⟨p, po, none⟩ : Addr).add (i * 4))).getD undef), intOf ((w.cell? ((⟨p, po, none⟩ : Addr).add (i * 4 + 1))).getD undef), intOf ((w.cell? ((⟨p, po, none⟩ : Addr).add (i * 4 + 2))).getD undef), intOf ((w.cell? ((⟨p, po, none⟩ : Addr).add (i * 4 + 3))).getD undef)⟩
  have hrd : ∀ i, i < len → ∀ l : Mve, w.cell? ((⟨p, po, none⟩ : Addr).add (i * 4)) = some (.bool l.f) → w.cell? ((⟨p, po, none⟩ : Addr).add (i * 4 + 1)) = some (.int .i64 l.x) → w.cell? ((⟨p, po, none⟩ : Addr).add (i * 4 + 2)) = some (.int .i64 l.y) → w.cell? ((⟨p, po, none⟩ : Addr).add (i * 4 + 3)) = some (.int .i64 l.z) → rd i = l := by
    intro i hi l h0 h1 h2 h3
    show Mve.mk _ _ _ _ = l
    rw [h0, h1, h2, h3]
    rfl
  refine ⟨_, len, cap, p, po, (List.range len).map rd, rfl, hmx, by simp, fun _ => ⟨rfl, ?_, ?_⟩⟩
  · obtain ⟨l, h0, _⟩ := each 0 (by omega)
    rw [addr_add_none'] at h0
    exact cell_lt h0
  · intro i l hi
    have hi' : i < len := by
      have := (List.getElem?_eq_some_iff.1 hi).1
      simpa using this
    obtain ⟨l', h0, h1, h2, h3⟩ := each i hi'
    rw [List.getElem?_map, List.getElem?_range hi'] at hi
    simp only [Option.map_some, Option.some.injEq] at hi
    rw [hrd i hi' l' h0 h1 h2 h3] at hi
    subst hi
    simp only [addr_add_none', ← Nat.add_assoc] at h0 h1 h2 h3
    exact ⟨h0, h1, h2, h3⟩
end Go.Proofs.Ytbjljofgpbecbaa
