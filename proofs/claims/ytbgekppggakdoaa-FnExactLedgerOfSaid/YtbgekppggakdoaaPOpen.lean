/-
  Slices of jobs and of slots that came in, opened.
-/
import Derived.Test.YtbgekppggakdoaaJbEq
import Derived.Deep.Slices
import Derived.ChangeSame
namespace Go.Proofs.Ytbgekppggakdoaa
open Go.ChangeShapes Go.WideShapes Go.ChangeAt Go.RowKit Go.Deep
set_option linter.unusedVariables false
set_option linter.unusedSimpArgs false

theorem addr_add_none (p po j : Nat) : (⟨p, po, none⟩ : Addr).add j = ⟨p, po + j, none⟩ := by
  unfold Addr.add
  split <;> simp_all
theorem one_at {cs : List Value} {o : Nat} {v : Value} (h : (cs.drop o).take 1 = [v]) : cs[o]? = some v := by
  have h5 : ((cs.drop o).take 1)[0]? = some v := by rw [h]; rfl
  simpa [List.getElem?_take, List.getElem?_drop] using h5
/-- a slice of whatever elements, opened element by element -/
theorem open_gen {α : Type} (c : α → List Value) (Q : α → Prop) {H : Type} {enc : TypeId × Value → H} {P : Program} {w : World} {base : Nat} {spare : Nat → Bool} {held : Bool} {t e k : TypeId} {fuel : Nat} {cs : List Value} {x : DataW H × List MemPlace}
    (ht : P.underlying t = some (.slice e)) (ce : P.cellsOf e = k) (hk : 0 < k) (hc : ∀ a, (c a).length = k)
    (one : ∀ (m : Nat) (cs' : List Value) (y : DataW H × List MemPlace), DataW.trod enc P w base spare held m e cs' = some y → ∃ a, Q a ∧ ∀ (j : Nat) (v : Value), (c a)[j]? = some v → cs'[j]? = some v)
    (h : DataW.trod enc P w base spare held fuel t cs = some x) :
    ∃ (u : Option Addr) (n cap p po : Nat) (l : List α), cs = [.slice u n cap] ∧ n ≤ 9223372036854775807 ∧ l.length = n ∧ (∀ a ∈ l, Q a) ∧ SlG c k w u p po l := by
  rcases open_slice ht h with ⟨rfl, _⟩ | ⟨a, len, cap, m, n, D, Pl, rfl, hb, hl, hm, hmm, _, hx⟩
  · exact ⟨none, 0, 0, 0, 0, [], rfl, by omega, rfl, by simp, fun h => absurd rfl h⟩
  have hlm : len ≤ m := by rw [hmm]; split <;> omega
  have each : ∀ i, i < len → ∃ f : α, Q f ∧ ∀ (j : Nat) (v : Value), (c f)[j]? = some v → w.cell? (a.add (i * k + j)) = some v := by
    intro i hi
    obtain ⟨cs', h1, h2⟩ := hx i (by omega)
    rw [ce] at h1
    obtain ⟨_, hlen, hcell⟩ := World.cells?_some h1
    obtain ⟨f, hq, hf⟩ := one _ _ _ h2
    refine ⟨f, hq, fun j v hj => ?_⟩
    have hjl : j < k := by have := (List.getElem?_eq_some_iff.1 hj).1; rw [hc] at this; exact this
    rw [← hf j v hj, ← hcell j hjl, add_add]
  have hmx : len ≤ 9223372036854775807 := by unfold maxLen at hm; omega
  by_cases hn : len = 0
  · subst hn
    exact ⟨some a, 0, cap, 0, 0, [], rfl, by omega, rfl, by simp, fun h => absurd rfl h⟩
  obtain ⟨p, po, sp⟩ := a
  obtain ⟨f0, _, hy0⟩ := each 0 (by omega)
  have hv0 : ∃ v, (c f0)[0]? = some v := ⟨(c f0)[0]'(by rw [hc]; exact hk), List.getElem?_eq_getElem _⟩
  obtain ⟨v0, hv0⟩ := hv0
  have hy := hy0 0 v0 hv0
  have hsp : sp = none := by
    cases sp with
    | none => rfl
    | some s =>
      simp only [Addr.add, World.cell?] at hy
      split at hy <;> simp at hy
  subst hsp
  have hex : ∃ fs : List α, fs.length = len ∧ (∀ f ∈ fs, Q f) ∧ ∀ (i : Nat) (f : α), fs[i]? = some f → ∀ (j : Nat) (v : Value), (c f)[j]? = some v → w.cell? ((⟨p, po, none⟩ : Addr).add (i * k + j)) = some v := by
    have : ∀ q, q ≤ len → ∃ fs : List α, fs.length = q ∧ (∀ f ∈ fs, Q f) ∧ ∀ (i : Nat) (f : α), fs[i]? = some f → ∀ (j : Nat) (v : Value), (c f)[j]? = some v → w.cell? ((⟨p, po, none⟩ : Addr).add (i * k + j)) = some v := by
      intro q
      induction q with
      | zero => intro _; exact ⟨[], rfl, by simp, by simp⟩
      | succ q ih =>
        intro hk
        obtain ⟨fs, h1, h2, h3⟩ := ih (by omega)
        obtain ⟨f, h4, h5⟩ := each q (by omega)
        refine ⟨fs ++ [f], by simp [h1], ?_, ?_⟩
        · intro x hx
          rcases List.mem_append.1 hx with e | e
          · exact h2 x e
          · simp only [List.mem_singleton] at e; subst e; exact h4
        · intro i x hi j v hj
          by_cases e : i < q
          · rw [List.getElem?_append_left (by omega)] at hi
            exact h3 i x hi j v hj
          · rw [List.getElem?_append_right (by omega)] at hi
            have e0 : i - fs.length = 0 := by
              rcases Nat.eq_zero_or_pos (i - fs.length) with e | e
              · exact e
              · rw [List.getElem?_eq_none (by simp; omega)] at hi; cases hi
            rw [e0] at hi
            cases hi
            have ei : i = q := by omega
            subst ei
            exact h5 j v hj
    exact this len (Nat.le_refl _)
  obtain ⟨fs, h1, h2, h3⟩ := hex
  refine ⟨_, len, cap, p, po, fs, rfl, hmx, h1, h2, fun _ => ⟨rfl, ?_, ?_⟩⟩
  · rw [addr_add_none] at hy
    exact cell_lt hy
  · intro i f hi j v hj
    have := h3 i f hi j v hj
    rw [addr_add_none, ← Nat.add_assoc] at this
    exact this
theorem cells3 : Try.prog.cellsOf 3 = 1 := by kernel_rfl
theorem cells4 : Try.prog.cellsOf 4 = 1 := by kernel_rfl
theorem cells9 : Try.prog.cellsOf 9 = 1 := by kernel_rfl
theorem cells52 : Try.prog.cellsOf 52 = 1 := by kernel_rfl
theorem stc_len (s : Stp) : (stc s).length = 4 := rfl
theorem slc_len (s : Slt) : (slc s).length = 6 := rfl
theorem open_steps {H : Type} {enc : TypeId × Value → H} {w : World} {base : Nat} {spare : Nat → Bool} {held : Bool} {fuel : Nat} {cs : List Value} {x : DataW H × List MemPlace}
    (h : DataW.trod enc Try.prog w base spare held fuel 52 cs = some x) :
    ∃ (u : Option Addr) (n cap p po : Nat) (l : List Stp), cs = [.slice u n cap] ∧ n ≤ 9223372036854775807 ∧ l.length = n ∧ (∀ a ∈ l, True) ∧ SlG stc 4 w u p po l := by
  refine open_gen stc (fun _ => True) Try.underlying52 (k := 4) (by kernel_rfl) (by decide) stc_len ?_ h
  intro m cs' y hy
  obtain ⟨xs, q, _, _, _, hxl, hff⟩ := DataW.trod_struct Try.underlying114 hy
  have hxl' : xs.length = 4 := by simpa using hxl
  have g : ∀ j, j < 4 → ∃ y, xs[j]? = some y := fun j hj => ⟨xs[j]'(by omega), List.getElem?_eq_getElem _⟩
  obtain ⟨q0, e0⟩ := g 0 (by omega)
  have t0 : DataW.trod enc Try.prog w base spare held q 3 ((cs'.drop 0).take (Try.prog.cellsOf 3)) = xs[0]? := hff 0 _ rfl
  rw [e0] at t0
  obtain ⟨b0, hy0, _, _⟩ := DataW.trod_int Try.underlying3 t0
  rw [cells3] at hy0
  obtain ⟨q1, e1⟩ := g 1 (by omega)
  have t1 : DataW.trod enc Try.prog w base spare held q 3 ((cs'.drop 1).take (Try.prog.cellsOf 3)) = xs[1]? := hff 1 _ rfl
  rw [e1] at t1
  obtain ⟨b1, hy1, _, _⟩ := DataW.trod_int Try.underlying3 t1
  rw [cells3] at hy1
  obtain ⟨q2, e2⟩ := g 2 (by omega)
  have t2 : DataW.trod enc Try.prog w base spare held q 3 ((cs'.drop 2).take (Try.prog.cellsOf 3)) = xs[2]? := hff 2 _ rfl
  rw [e2] at t2
  obtain ⟨b2, hy2, _, _⟩ := DataW.trod_int Try.underlying3 t2
  rw [cells3] at hy2
  obtain ⟨q3, e3⟩ := g 3 (by omega)
  have t3 : DataW.trod enc Try.prog w base spare held q 3 ((cs'.drop 3).take (Try.prog.cellsOf 3)) = xs[3]? := hff 3 _ rfl
  rw [e3] at t3
  obtain ⟨b3, hy3, _, _⟩ := DataW.trod_int Try.underlying3 t3
  rw [cells3] at hy3
  refine ⟨⟨b0, b1, b2, b3⟩, trivial, ?_⟩
  intro j v hj
  rcases j with _ | _ | _ | _ | j <;> simp [stc] at hj <;> subst hj
  · exact one_at hy0
  · exact one_at hy1
  · exact one_at hy2
  · exact one_at hy3
theorem open_jobs {H : Type} {enc : TypeId × Value → H} {w : World} {base : Nat} {spare : Nat → Bool} {held : Bool} {fuel : Nat} {cs : List Value} {x : DataW H × List MemPlace}
    (h : DataW.trod enc Try.prog w base spare held fuel 24 cs = some x) :
    ∃ (u : Option Addr) (n cap p po : Nat) (J : List Jb), cs = [.slice u n cap] ∧ n ≤ 9223372036854775807 ∧ J.length = n ∧ Jbs w u p po J := by
  obtain ⟨u, n, cap, p, po, J, h1, h2, h3, h4, h5⟩ := open_gen jc (fun j => Jo w j) Try.underlying24 (k := 3) (by kernel_rfl) (by decide) jc_len (by
    intro m cs' y hy
    obtain ⟨xs, q, _, _, _, hxl, hff⟩ := DataW.trod_struct Try.underlying54 hy
    have hxl' : xs.length = 3 := by simpa using hxl
    have g : ∀ j, j < 3 → ∃ y, xs[j]? = some y := fun j hj => ⟨xs[j]'(by omega), List.getElem?_eq_getElem _⟩
    obtain ⟨q0, e0⟩ := g 0 (by omega)
    have t0 : DataW.trod enc Try.prog w base spare held q 9 ((cs'.drop 0).take (Try.prog.cellsOf 9)) = xs[0]? := hff 0 _ rfl
    rw [e0] at t0
    obtain ⟨a0, hy0, _, hs0⟩ := DataW.trod_string Try.underlying9 t0
    rw [cells9] at hy0
    obtain ⟨q1, e1⟩ := g 1 (by omega)
    have t1 : DataW.trod enc Try.prog w base spare held q 3 ((cs'.drop 1).take (Try.prog.cellsOf 3)) = xs[1]? := hff 1 _ rfl
    rw [e1] at t1
    obtain ⟨b1, hy1, _, _⟩ := DataW.trod_int Try.underlying3 t1
    rw [cells3] at hy1
    obtain ⟨q2, e2⟩ := g 2 (by omega)
    have t2 : DataW.trod enc Try.prog w base spare held q 52 ((cs'.drop 2).take (Try.prog.cellsOf 52)) = xs[2]? := hff 2 _ rfl
    rw [e2] at t2
    obtain ⟨su, sn, sc, sp, so, T, hy2, hn2, hl2, _, hr2⟩ := open_steps t2
    rw [cells52] at hy2
    refine ⟨⟨a0, b1, su, sn, sc, sp, so, T⟩, ⟨hl2, hn2, hs0, hr2⟩, ?_⟩
    intro j v hj
    rcases j with _ | _ | _ | j <;> simp [jc] at hj <;> subst hj
    · exact one_at hy0
    · exact one_at hy1
    · exact one_at hy2) h
  exact ⟨u, n, cap, p, po, J, h1, h2, h3, h5, h4⟩
theorem open_slots {H : Type} {enc : TypeId × Value → H} {w : World} {base : Nat} {spare : Nat → Bool} {held : Bool} {fuel : Nat} {cs : List Value} {x : DataW H × List MemPlace}
    (h : DataW.trod enc Try.prog w base spare held fuel 33 cs = some x) :
    ∃ (u : Option Addr) (n cap p po : Nat) (l : List Slt), cs = [.slice u n cap] ∧ n ≤ 9223372036854775807 ∧ l.length = n ∧ SlG slc 6 w u p po l := by
  obtain ⟨u, n, cap, p, po, J, h1, h2, h3, h4, h5⟩ := open_gen slc (fun _ => True) Try.underlying33 (k := 6) (by kernel_rfl) (by decide) slc_len (by
    intro m cs' y hy
    obtain ⟨xs, q, _, _, _, hxl, hff⟩ := DataW.trod_struct Try.underlying77 hy
    have hxl' : xs.length = 6 := by simpa using hxl
    have g : ∀ j, j < 6 → ∃ y, xs[j]? = some y := fun j hj => ⟨xs[j]'(by omega), List.getElem?_eq_getElem _⟩
    obtain ⟨q0, e0⟩ := g 0 (by omega)
    have t0 : DataW.trod enc Try.prog w base spare held q 3 ((cs'.drop 0).take (Try.prog.cellsOf 3)) = xs[0]? := hff 0 _ rfl
    rw [e0] at t0
    obtain ⟨b0, hy0, _, _⟩ := DataW.trod_int Try.underlying3 t0
    rw [cells3] at hy0
    obtain ⟨q1, e1⟩ := g 1 (by omega)
    have t1 : DataW.trod enc Try.prog w base spare held q 3 ((cs'.drop 1).take (Try.prog.cellsOf 3)) = xs[1]? := hff 1 _ rfl
    rw [e1] at t1
    obtain ⟨b1, hy1, _, _⟩ := DataW.trod_int Try.underlying3 t1
    rw [cells3] at hy1
    obtain ⟨q2, e2⟩ := g 2 (by omega)
    have t2 : DataW.trod enc Try.prog w base spare held q 3 ((cs'.drop 2).take (Try.prog.cellsOf 3)) = xs[2]? := hff 2 _ rfl
    rw [e2] at t2
    obtain ⟨b2, hy2, _, _⟩ := DataW.trod_int Try.underlying3 t2
    rw [cells3] at hy2
    obtain ⟨q3, e3⟩ := g 3 (by omega)
    have t3 : DataW.trod enc Try.prog w base spare held q 3 ((cs'.drop 3).take (Try.prog.cellsOf 3)) = xs[3]? := hff 3 _ rfl
    rw [e3] at t3
    obtain ⟨b3, hy3, _, _⟩ := DataW.trod_int Try.underlying3 t3
    rw [cells3] at hy3
    obtain ⟨q4, e4⟩ := g 4 (by omega)
    have t4 : DataW.trod enc Try.prog w base spare held q 3 ((cs'.drop 4).take (Try.prog.cellsOf 3)) = xs[4]? := hff 4 _ rfl
    rw [e4] at t4
    obtain ⟨b4, hy4, _, _⟩ := DataW.trod_int Try.underlying3 t4
    rw [cells3] at hy4
    obtain ⟨q5, e5⟩ := g 5 (by omega)
    have t5 : DataW.trod enc Try.prog w base spare held q 4 ((cs'.drop 5).take (Try.prog.cellsOf 4)) = xs[5]? := hff 5 _ rfl
    rw [e5] at t5
    obtain ⟨b5, hy5, _⟩ := DataW.trod_bool Try.underlying4 t5
    rw [cells4] at hy5
    refine ⟨⟨b0, b1, b2, b3, b4, b5⟩, trivial, ?_⟩
    intro j v hj
    rcases j with _ | _ | _ | _ | _ | _ | j <;> simp [slc] at hj <;> subst hj
    · exact one_at hy0
    · exact one_at hy1
    · exact one_at hy2
    · exact one_at hy3
    · exact one_at hy4
    · exact one_at hy5) h
  exact ⟨u, n, cap, p, po, J, h1, h2, h3, h5⟩
end Go.Proofs.Ytbgekppggakdoaa
