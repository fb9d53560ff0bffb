/-
  A slice of floating numbers, and of structs of them, that came in, opened.
-/
import Derived.Test.YtgocgcnpgmamiaaFRows
import Derived.Deep.Slices
import Derived.ChangeSame
namespace Go.Proofs.Ytgocgcnpgmamiaa
open Go.ChangeShapes Go.WideShapes Go.ChangeAt Go.RowKit Go.Deep
set_option linter.unusedVariables false

def fltOf : Value → Nat
  | .float _ b => b
  | _ => 0
theorem trod_flt {H : Type} {enc : TypeId × Value → H} {P : Program} {w : World} {base : Nat} {spare : Nat → Bool} {held : Bool} {t : TypeId} {fuel : Nat} {cs : List Value} {x : DataW H × List MemPlace} {k : FloatKind} (ht : P.underlying t = some (.float k)) (h : DataW.trod enc P w base spare held fuel t cs = some x) : ∃ b, cs = [.float k b] := by
  cases fuel with
  | zero => simp [DataW.trod] at h
  | succ n =>
    unfold DataW.trod at h
    rw [ht] at h
    split at h <;> simp_all
/-- the fields are floating numbers, one behind another -/
def fltFields (fk : FloatKind) (P : Program) (fs : Array Field) : Bool := (List.range fs.size).all fun j =>
  match fs[j]? with
  | some f => decide (f.offset = j) && decide (P.cellsOf f.type = 1) && (match P.underlying f.type with | some (.float k2) => decide (k2 = fk) | _ => false)
  | none => false
theorem fltFields_at {fk : FloatKind} {P : Program} {fs : Array Field} (h : fltFields fk P fs = true) {j : Nat} {f : Field} (hf : fs[j]? = some f) : f.offset = j ∧ P.cellsOf f.type = 1 ∧ P.underlying f.type = some (.float fk) := by
  unfold fltFields at h
  rw [List.all_eq_true] at h
  have hj : j < fs.size := (Array.getElem?_eq_some_iff.1 hf).1
  have := h j (by simpa using hj)
  rw [hf] at this
  simp only [Bool.and_eq_true, decide_eq_true_eq] at this
  refine ⟨this.1.1, this.1.2, ?_⟩
  have h2 := this.2
  split at h2
  · rename_i k2 e2
    rw [e2, of_decide_eq_true h2]
  · cases h2
theorem open_fstructs {fk : FloatKind} {H : Type} {enc : TypeId × Value → H} {P : Program} {w : World} {base : Nat} {spare : Nat → Bool} {held : Bool} {t e k : TypeId} {fs : Array Field} {fuel : Nat} {cs : List Value} {x : DataW H × List MemPlace}
    (ht : P.underlying t = some (.slice e)) (he : P.underlying e = some (.struct fs)) (ce : P.cellsOf e = k) (hk : 0 < k) (hsz : fs.size = k) (hf : fltFields fk P fs = true)
    (h : DataW.trod enc P w base spare held fuel t cs = some x) :
    ∃ (u : Option Addr) (n cap : Nat) (L : List Nat), cs = [.slice u n cap] ∧ n ≤ 9223372036854775807 ∧ L.length = n * k ∧ (n ≠ 0 → ∃ p po, u = some ⟨p, po, none⟩ ∧ p < w.heap.size ∧ FltsAt fk w p po L) := by
  rcases open_slice ht h with ⟨rfl, _⟩ | ⟨a, len, cap, m, n, D, Pl, rfl, hb, hl, hm, hmm, _, hx⟩
  · exact ⟨none, 0, 0, [], rfl, by omega, by simp, fun h => absurd rfl h⟩
  have hlm : len ≤ m := by rw [hmm]; split <;> omega
  have each : ∀ j, j < len * k → ∃ n, w.cell? (a.add j) = some (.float fk n) := by
    intro j hj
    have hi : j / k < len := Nat.div_lt_of_lt_mul (by rw [Nat.mul_comm]; exact hj)
    have hr : j % k < k := Nat.mod_lt _ hk
    obtain ⟨cs', h1, h2⟩ := hx (j / k) (by omega)
    rw [ce] at h1
    obtain ⟨_, hlen, hcell⟩ := World.cells?_some h1
    obtain ⟨xs, q, _, _, _, hxl, hff⟩ := DataW.trod_struct he h2
    have hfs : fs[j % k]? = some (fs[j % k]'(by omega)) := Array.getElem?_eq_getElem _
    obtain ⟨o1, o2, o3⟩ := fltFields_at hf hfs
    have h3 := hff (j % k) _ hfs
    rw [List.getElem?_eq_getElem (by omega)] at h3
    obtain ⟨y, hy⟩ := trod_flt o3 h3
    rw [o1, o2] at hy
    have h4 : cs'[j % k]? = some (.float fk y) := by
      have h5 : ((cs'.drop (j % k)).take 1)[0]? = some (.float fk y) := by rw [hy]; rfl
      simpa [List.getElem?_take, List.getElem?_drop] using h5
    refine ⟨y, ?_⟩
    rw [← h4, ← hcell (j % k) hr]
    rw [add_add, Nat.mul_comm, Nat.div_add_mod]
  refine ⟨some a, len, cap, (List.range (len * k)).map fun j => fltOf ((w.cell? (a.add j)).getD undef), rfl, ?_, by simp, fun hn => ?_⟩
  · unfold maxLen at hm; omega
  · obtain ⟨y, hy⟩ := each 0 (Nat.mul_pos (by omega) hk)
    obtain ⟨p, po, sp⟩ := a
    have hsp : sp = none := by
      cases sp with
      | none => rfl
      | some s =>
        simp only [Addr.add, World.cell?] at hy
        split at hy <;> simp at hy
    subst hsp
    refine ⟨p, po, rfl, ?_, ?_⟩
    · exact cell_lt (o := po + 0) hy
    · intro j z hj
      have hjl : j < len * k := by
        have := (List.getElem?_eq_some_iff.1 hj).1
        simpa using this
      obtain ⟨y2, hy2⟩ := each j hjl
      rw [List.getElem?_map, List.getElem?_range hjl] at hj
      simp only [Option.map_some, Option.some.injEq] at hj
      rw [hy2] at hj
      simp only [Option.getD_some, fltOf] at hj
      rw [← hj, ← add_none]
      exact hy2
theorem open_frow {fk : FloatKind} {H : Type} {enc : TypeId × Value → H} {P : Program} {w : World} {base : Nat} {spare : Nat → Bool} {held : Bool} {t e : TypeId} {fuel : Nat} {cs : List Value} {x : DataW H × List MemPlace}
    (ht : P.underlying t = some (.slice e)) (he : P.underlying e = some (.float fk)) (ce : P.cellsOf e = 1)
    (h : DataW.trod enc P w base spare held fuel t cs = some x) :
    ∃ (u : Option Addr) (n cap : Nat) (L : List Nat), cs = [.slice u n cap] ∧ n ≤ 9223372036854775807 ∧ L.length = n ∧ (n ≠ 0 → ∃ p po, u = some ⟨p, po, none⟩ ∧ p < w.heap.size ∧ FltsAt fk w p po L) := by
  rcases open_slice ht h with ⟨rfl, _⟩ | ⟨a, len, cap, m, n, D, Pl, rfl, hb, hl, hm, hmm, _, hx⟩
  · exact ⟨none, 0, 0, [], rfl, by omega, by simp, fun h => absurd rfl h⟩
  have hlm : len ≤ m := by rw [hmm]; split <;> omega
  have each : ∀ j, j < len → ∃ n, w.cell? (a.add j) = some (.float fk n) := by
    intro j hj
    obtain ⟨cs', h1, h2⟩ := hx j (by omega)
    rw [ce] at h1
    obtain ⟨_, hlen, hcell⟩ := World.cells?_some h1
    obtain ⟨y, hy⟩ := trod_flt he h2
    refine ⟨y, ?_⟩
    have h4 := hcell 0 (by omega)
    rw [hy] at h4
    rw [Nat.mul_one, add_add, Nat.add_zero] at h4
    exact h4
  refine ⟨some a, len, cap, (List.range len).map fun j => fltOf ((w.cell? (a.add j)).getD undef), rfl, ?_, by simp, fun hn => ?_⟩
  · unfold maxLen at hm; omega
  · obtain ⟨y, hy⟩ := each 0 (by omega)
    obtain ⟨p, po, sp⟩ := a
    have hsp : sp = none := by
      cases sp with
      | none => rfl
      | some s =>
        simp only [Addr.add, World.cell?] at hy
        split at hy <;> simp at hy
    subst hsp
    refine ⟨p, po, rfl, ?_, ?_⟩
    · exact cell_lt (o := po + 0) hy
    · intro j z hj
      have hjl : j < len := by
        have := (List.getElem?_eq_some_iff.1 hj).1
        simpa using this
      obtain ⟨y2, hy2⟩ := each j hjl
      rw [List.getElem?_map, List.getElem?_range hjl] at hj
      simp only [Option.map_some, Option.some.injEq] at hj
      rw [hy2] at hj
      simp only [Option.getD_some, fltOf] at hj
      rw [← hj, ← add_none]
      exact hy2
end Go.Proofs.Ytgocgcnpgmamiaa
