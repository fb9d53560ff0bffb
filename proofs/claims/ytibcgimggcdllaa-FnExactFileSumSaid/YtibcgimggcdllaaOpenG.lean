/-
  Slices of whatever elements that came in, opened; bytes.
-/
import Derived.Test.YtibcgimggcdllaaByRows
import Derived.Deep.Slices
import Derived.ChangeSame
namespace Go.Proofs.Ytibcgimggcdllaa
open Go.ChangeShapes Go.WideShapes Go.ChangeAt Go.RowKit Go.Deep
set_option linter.unusedVariables false
set_option linter.unusedSimpArgs false

theorem addr_add_none (p po j : Nat) : (⟨p, po, none⟩ : Addr).add j = ⟨p, po + j, none⟩ := by
  unfold Addr.add
  split <;> simp_all
theorem one_at {cs : List Value} {o : Nat} {v : Value} (h : (cs.drop o).take 1 = [v]) : cs[o]? = some v := by
  have h5 : ((cs.drop o).take 1)[0]? = some v := by rw [h]; rfl
  simpa [List.getElem?_take, List.getElem?_drop] using h5
/-- a slice of whatever elements, opened element by element -/
theorem open_gen {α : Type} (c : α → List Value) (Q : α → Prop) {H : Type} {enc : TypeId × Value → H} {P : Program} {w : World} {base : Nat} {spare : Nat → Bool} {held : Bool} {t e k : TypeId} {fuel : Nat} {cs : List Value} {x : DataW H × List MemPlace}
    (ht : P.underlying t = some (.slice e)) (ce : P.cellsOf e = k) (hk : 0 < k) (hc : ∀ a, (c a).length = k)
    (one : ∀ (m : Nat) (cs' : List Value) (y : DataW H × List MemPlace), DataW.trod enc P w base spare held m e cs' = some y → ∃ a, Q a ∧ ∀ (j : Nat) (v : Value), (c a)[j]? = some v → cs'[j]? = some v)
    (h : DataW.trod enc P w base spare held fuel t cs = some x) :
    ∃ (u : Option Addr) (n cap p po : Nat) (l : List α), cs = [.slice u n cap] ∧ n ≤ 9223372036854775807 ∧ l.length = n ∧ (∀ a ∈ l, Q a) ∧ SlG c k w u p po l := by
  rcases open_slice ht h with ⟨rfl, _⟩ | ⟨a, len, cap, m, n, D, Pl, rfl, hb, hl, hm, hmm, _, hx⟩
  · exact ⟨none, 0, 0, 0, 0, [], rfl, by omega, rfl, by simp, fun h => absurd rfl h⟩
  have hlm : len ≤ m := by rw [hmm]; split <;> omega
  have each : ∀ i, i < len → ∃ f : α, Q f ∧ ∀ (j : Nat) (v : Value), (c f)[j]? = some v → w.cell? (a.add (i * k + j)) = some v := by
    intro i hi
    obtain ⟨cs', h1, h2⟩ := hx i (by omega)
    rw [ce] at h1
    obtain ⟨_, hlen, hcell⟩ := World.cells?_some h1
    obtain ⟨f, hq, hf⟩ := one _ _ _ h2
    refine ⟨f, hq, fun j v hj => ?_⟩
    have hjl : j < k := by have := (List.getElem?_eq_some_iff.1 hj).1; rw [hc] at this; exact this
    rw [← hf j v hj, ← hcell j hjl, add_add]
  have hmx : len ≤ 9223372036854775807 := by unfold maxLen at hm; omega
  by_cases hn : len = 0
  · subst hn
    exact ⟨some a, 0, cap, 0, 0, [], rfl, by omega, rfl, by simp, fun h => absurd rfl h⟩
  obtain ⟨p, po, sp⟩ := a
  obtain ⟨f0, _, hy0⟩ := each 0 (by omega)
  have hv0 : ∃ v, (c f0)[0]? = some v := ⟨(c f0)[0]'(by rw [hc]; exact hk), List.getElem?_eq_getElem _⟩
  obtain ⟨v0, hv0⟩ := hv0
  have hy := hy0 0 v0 hv0
  have hsp : sp = none := by
    cases sp with
    | none => rfl
    | some s =>
      simp only [Addr.add, World.cell?] at hy
      split at hy <;> simp at hy
  subst hsp
  have hex : ∃ fs : List α, fs.length = len ∧ (∀ f ∈ fs, Q f) ∧ ∀ (i : Nat) (f : α), fs[i]? = some f → ∀ (j : Nat) (v : Value), (c f)[j]? = some v → w.cell? ((⟨p, po, none⟩ : Addr).add (i * k + j)) = some v := by
    have : ∀ q, q ≤ len → ∃ fs : List α, fs.length = q ∧ (∀ f ∈ fs, Q f) ∧ ∀ (i : Nat) (f : α), fs[i]? = some f → ∀ (j : Nat) (v : Value), (c f)[j]? = some v → w.cell? ((⟨p, po, none⟩ : Addr).add (i * k + j)) = some v := by
      intro q
      induction q with
      | zero => intro _; exact ⟨[], rfl, by simp, by simp⟩
      | succ q ih =>
        intro hk
        obtain ⟨fs, h1, h2, h3⟩ := ih (by omega)
        obtain ⟨f, h4, h5⟩ := each q (by omega)
        refine ⟨fs ++ [f], by simp [h1], ?_, ?_⟩
        · intro x hx
          rcases List.mem_append.1 hx with e | e
          · exact h2 x e
          · simp only [List.mem_singleton] at e; subst e; exact h4
        · intro i x hi j v hj
          by_cases e : i < q
          · rw [List.getElem?_append_left (by omega)] at hi
            exact h3 i x hi j v hj
          · rw [List.getElem?_append_right (by omega)] at hi
            have e0 : i - fs.length = 0 := by
              rcases Nat.eq_zero_or_pos (i - fs.length) with e | e
              · exact e
              · rw [List.getElem?_eq_none (by simp; omega)] at hi; cases hi
            rw [e0] at hi
            cases hi
            have ei : i = q := by omega
            subst ei
            exact h5 j v hj
    exact this len (Nat.le_refl _)
  obtain ⟨fs, h1, h2, h3⟩ := hex
  refine ⟨_, len, cap, p, po, fs, rfl, hmx, h1, h2, fun _ => ⟨rfl, ?_, ?_⟩⟩
  · rw [addr_add_none] at hy
    exact cell_lt hy
  · intro i f hi j v hj
    have := h3 i f hi j v hj
    rw [addr_add_none, ← Nat.add_assoc] at this
    exact this
theorem open_by {H : Type} {enc : TypeId × Value → H} {w : World} {base : Nat} {spare : Nat → Bool} {held : Bool} {fuel : Nat} {cs : List Value} {x : DataW H × List MemPlace}
    (h : DataW.trod enc Try.prog w base spare held fuel 22 cs = some x) :
    ∃ (u : Option Addr) (n cap p po : Nat) (l : List Int), cs = [.slice u n cap] ∧ n ≤ 9223372036854775807 ∧ l.length = n ∧ Byt l ∧ SlG byc 1 w u p po l := by
  refine open_gen byc (fun x => 0 ≤ x ∧ x < 256) Try.underlying22 (k := 1) (by kernel_rfl) (by decide) byc_len ?_ h
  intro m cs' y hy
  obtain ⟨b, hb, _, hw⟩ := DataW.trod_int Try.underlying5 hy
  refine ⟨b, ?_, ?_⟩
  · simp [Lit.wf] at hw
    have e1 : IntKind.u8.min = 0 := by decide
    have e2 : IntKind.u8.max = 255 := by decide
    omega
  · intro j v hj
    rw [hb]
    exact hj
end Go.Proofs.Ytibcgimggcdllaa
