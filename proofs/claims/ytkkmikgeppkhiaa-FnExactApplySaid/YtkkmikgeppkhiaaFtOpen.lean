/-
  A slice of features that came in, opened.
-/
import Derived.Test.YtkkmikgeppkhiaaCkM
import Derived.Deep.Slices
import Derived.ChangeSame
namespace Go.Proofs.Ytkkmikgeppkhiaa
open Go.ChangeShapes Go.WideShapes Go.ChangeAt Go.RowKit Go.Deep
set_option linter.unusedVariables false
set_option linter.unusedSimpArgs false

theorem addr_add_none (p po j : Nat) : (⟨p, po, none⟩ : Addr).add j = ⟨p, po + j, none⟩ := by
  unfold Addr.add
  split <;> simp_all
def bytesOf : Value → ByteArray
  | .string s => s
  | _ => ByteArray.empty
theorem one_at {cs : List Value} {o : Nat} {v : Value} (h : (cs.drop o).take 1 = [v]) : cs[o]? = some v := by
  have h5 : ((cs.drop o).take 1)[0]? = some v := by rw [h]; rfl
  simpa [List.getElem?_take, List.getElem?_drop] using h5
theorem cells3 : Try.prog.cellsOf 3 = 1 := by kernel_rfl
theorem cells9 : Try.prog.cellsOf 9 = 1 := by kernel_rfl
theorem cells39 : Try.prog.cellsOf 46 = 6 := by kernel_rfl
theorem cells41 : Try.prog.cellsOf 48 = 15 := by kernel_rfl
theorem open_fts {H : Type} {enc : TypeId × Value → H} {w : World} {base : Nat} {spare : Nat → Bool} {held : Bool} {fuel : Nat} {cs : List Value} {x : DataW H × List MemPlace}
    (h : DataW.trod enc Try.prog w base spare held fuel 22 cs = some x) :
    ∃ (u : Option Addr) (n cap p po : Nat) (fs : List Ft), cs = [.slice u n cap] ∧ n ≤ 9223372036854775807 ∧ fs.length = n ∧ (∀ f ∈ fs, f.nm.size ≤ maxLen ∧ f.on.size ≤ maxLen ∧ f.ov.size ≤ maxLen) ∧ SlG ftc 15 w u p po fs := by
  rcases open_slice Try.underlying22 h with ⟨rfl, _⟩ | ⟨a, len, cap, m, n, D, Pl, rfl, hb, hl, hm, hmm, _, hx⟩
  · exact ⟨none, 0, 0, 0, 0, [], rfl, by omega, rfl, by simp, fun h => absurd rfl h⟩
  have hlm : len ≤ m := by rw [hmm]; split <;> omega
  have each : ∀ i, i < len → ∃ f : Ft, (f.nm.size ≤ maxLen ∧ f.on.size ≤ maxLen ∧ f.ov.size ≤ maxLen) ∧ ∀ (j : Nat) (v : Value), (ftc f)[j]? = some v → w.cell? (a.add (i * 15 + j)) = some v := by
    intro i hi
    obtain ⟨cs', h1, h2⟩ := hx i (by omega)
    rw [cells41] at h1
    obtain ⟨_, hlen, hcell⟩ := World.cells?_some h1
    obtain ⟨xs, q, _, _, _, hxl, hff⟩ := DataW.trod_struct Try.underlying48 h2
    have hxl' : xs.length = 10 := by simpa using hxl
    have g : ∀ j, j < 10 → ∃ y, xs[j]? = some y := fun j hj => ⟨xs[j]'(by omega), List.getElem?_eq_getElem _⟩
    obtain ⟨q0, e0⟩ := g 0 (by omega)
    have t0 : DataW.trod enc Try.prog w base spare held q 9 ((cs'.drop 0).take (Try.prog.cellsOf 9)) = xs[0]? := hff 0 _ rfl
    rw [e0] at t0
    obtain ⟨a0, hy0, _, hs0⟩ := DataW.trod_string Try.underlying9 t0
    rw [cells9] at hy0
    have c0 := one_at hy0
    obtain ⟨q1, e1⟩ := g 1 (by omega)
    have t1 : DataW.trod enc Try.prog w base spare held q 9 ((cs'.drop 1).take (Try.prog.cellsOf 9)) = xs[1]? := hff 1 _ rfl
    rw [e1] at t1
    obtain ⟨a1, hy1, _, hs1⟩ := DataW.trod_string Try.underlying9 t1
    rw [cells9] at hy1
    have c1 := one_at hy1
    obtain ⟨q2, e2⟩ := g 2 (by omega)
    have t2 : DataW.trod enc Try.prog w base spare held q 9 ((cs'.drop 2).take (Try.prog.cellsOf 9)) = xs[2]? := hff 2 _ rfl
    rw [e2] at t2
    obtain ⟨a2, hy2, _, hs2⟩ := DataW.trod_string Try.underlying9 t2
    rw [cells9] at hy2
    have c2 := one_at hy2
    obtain ⟨q3, e3⟩ := g 3 (by omega)
    have t3 : DataW.trod enc Try.prog w base spare held q 3 ((cs'.drop 3).take (Try.prog.cellsOf 3)) = xs[3]? := hff 3 _ rfl
    rw [e3] at t3
    obtain ⟨b3, hy3, _, _⟩ := DataW.trod_int Try.underlying3 t3
    rw [cells3] at hy3
    have c3 := one_at hy3
    obtain ⟨q4, e4⟩ := g 4 (by omega)
    have t4 : DataW.trod enc Try.prog w base spare held q 3 ((cs'.drop 4).take (Try.prog.cellsOf 3)) = xs[4]? := hff 4 _ rfl
    rw [e4] at t4
    obtain ⟨b4, hy4, _, _⟩ := DataW.trod_int Try.underlying3 t4
    rw [cells3] at hy4
    have c4 := one_at hy4
    obtain ⟨q6, e6⟩ := g 6 (by omega)
    have t6 : DataW.trod enc Try.prog w base spare held q 3 ((cs'.drop 11).take (Try.prog.cellsOf 3)) = xs[6]? := hff 6 _ rfl
    rw [e6] at t6
    obtain ⟨b11, hy6, _, _⟩ := DataW.trod_int Try.underlying3 t6
    rw [cells3] at hy6
    have c11 := one_at hy6
    obtain ⟨q7, e7⟩ := g 7 (by omega)
    have t7 : DataW.trod enc Try.prog w base spare held q 3 ((cs'.drop 12).take (Try.prog.cellsOf 3)) = xs[7]? := hff 7 _ rfl
    rw [e7] at t7
    obtain ⟨b12, hy7, _, _⟩ := DataW.trod_int Try.underlying3 t7
    rw [cells3] at hy7
    have c12 := one_at hy7
    obtain ⟨q8, e8⟩ := g 8 (by omega)
    have t8 : DataW.trod enc Try.prog w base spare held q 3 ((cs'.drop 13).take (Try.prog.cellsOf 3)) = xs[8]? := hff 8 _ rfl
    rw [e8] at t8
    obtain ⟨b13, hy8, _, _⟩ := DataW.trod_int Try.underlying3 t8
    rw [cells3] at hy8
    have c13 := one_at hy8
    obtain ⟨q9, e9⟩ := g 9 (by omega)
    have t9 : DataW.trod enc Try.prog w base spare held q 3 ((cs'.drop 14).take (Try.prog.cellsOf 3)) = xs[9]? := hff 9 _ rfl
    rw [e9] at t9
    obtain ⟨b14, hy9, _, _⟩ := DataW.trod_int Try.underlying3 t9
    rw [cells3] at hy9
    have c14 := one_at hy9
    obtain ⟨q5, e5⟩ := g 5 (by omega)
    have t5 : DataW.trod enc Try.prog w base spare held q 46 ((cs'.drop 5).take (Try.prog.cellsOf 46)) = xs[5]? := hff 5 _ rfl
    rw [e5] at t5
    obtain ⟨ys, r, _, _, _, hyl, hgg⟩ := DataW.trod_struct Try.underlying46 t5
    have hyl' : ys.length = 6 := by simpa using hyl
    have g6 : ∀ j, j < 6 → ∃ y, ys[j]? = some y := fun j hj => ⟨ys[j]'(by omega), List.getElem?_eq_getElem _⟩
    obtain ⟨p0, f0⟩ := g6 0 (by omega)
    have s0 : DataW.trod enc Try.prog w base spare held r 3 ((((cs'.drop 5).take (Try.prog.cellsOf 46)).drop 0).take (Try.prog.cellsOf 3)) = ys[0]? := hgg 0 _ rfl
    rw [f0] at s0
    obtain ⟨d0, hz0, _, _⟩ := DataW.trod_int Try.underlying3 s0
    rw [cells3, cells39] at hz0
    have c5 : cs'[5]? = some (.int .i64 d0) := by
      have h7 := one_at hz0
      rw [List.getElem?_take, if_pos (by omega), List.getElem?_drop] at h7
      exact h7
    obtain ⟨p1, f1⟩ := g6 1 (by omega)
    have s1 : DataW.trod enc Try.prog w base spare held r 3 ((((cs'.drop 5).take (Try.prog.cellsOf 46)).drop 1).take (Try.prog.cellsOf 3)) = ys[1]? := hgg 1 _ rfl
    rw [f1] at s1
    obtain ⟨d1, hz1, _, _⟩ := DataW.trod_int Try.underlying3 s1
    rw [cells3, cells39] at hz1
    have c6 : cs'[6]? = some (.int .i64 d1) := by
      have h7 := one_at hz1
      rw [List.getElem?_take, if_pos (by omega), List.getElem?_drop] at h7
      exact h7
    obtain ⟨p2, f2⟩ := g6 2 (by omega)
    have s2 : DataW.trod enc Try.prog w base spare held r 3 ((((cs'.drop 5).take (Try.prog.cellsOf 46)).drop 2).take (Try.prog.cellsOf 3)) = ys[2]? := hgg 2 _ rfl
    rw [f2] at s2
    obtain ⟨d2, hz2, _, _⟩ := DataW.trod_int Try.underlying3 s2
    rw [cells3, cells39] at hz2
    have c7 : cs'[7]? = some (.int .i64 d2) := by
      have h7 := one_at hz2
      rw [List.getElem?_take, if_pos (by omega), List.getElem?_drop] at h7
      exact h7
    obtain ⟨p3, f3⟩ := g6 3 (by omega)
    have s3 : DataW.trod enc Try.prog w base spare held r 3 ((((cs'.drop 5).take (Try.prog.cellsOf 46)).drop 3).take (Try.prog.cellsOf 3)) = ys[3]? := hgg 3 _ rfl
    rw [f3] at s3
    obtain ⟨d3, hz3, _, _⟩ := DataW.trod_int Try.underlying3 s3
    rw [cells3, cells39] at hz3
    have c8 : cs'[8]? = some (.int .i64 d3) := by
      have h7 := one_at hz3
      rw [List.getElem?_take, if_pos (by omega), List.getElem?_drop] at h7
      exact h7
    obtain ⟨p4, f4⟩ := g6 4 (by omega)
    have s4 : DataW.trod enc Try.prog w base spare held r 3 ((((cs'.drop 5).take (Try.prog.cellsOf 46)).drop 4).take (Try.prog.cellsOf 3)) = ys[4]? := hgg 4 _ rfl
    rw [f4] at s4
    obtain ⟨d4, hz4, _, _⟩ := DataW.trod_int Try.underlying3 s4
    rw [cells3, cells39] at hz4
    have c9 : cs'[9]? = some (.int .i64 d4) := by
      have h7 := one_at hz4
      rw [List.getElem?_take, if_pos (by omega), List.getElem?_drop] at h7
      exact h7
    obtain ⟨p5, f5⟩ := g6 5 (by omega)
    have s5 : DataW.trod enc Try.prog w base spare held r 3 ((((cs'.drop 5).take (Try.prog.cellsOf 46)).drop 5).take (Try.prog.cellsOf 3)) = ys[5]? := hgg 5 _ rfl
    rw [f5] at s5
    obtain ⟨d5, hz5, _, _⟩ := DataW.trod_int Try.underlying3 s5
    rw [cells3, cells39] at hz5
    have c10 : cs'[10]? = some (.int .i64 d5) := by
      have h7 := one_at hz5
      rw [List.getElem?_take, if_pos (by omega), List.getElem?_drop] at h7
      exact h7
    refine ⟨⟨a0, a1, a2, b3, b4, d0, d1, d2, d3, d4, d5, b11, b12, b13, b14⟩, ⟨hs0, hs1, hs2⟩, fun j v hj => ?_⟩
    have hjl : j < 15 := by have := (List.getElem?_eq_some_iff.1 hj).1; rw [ftc_len] at this; exact this
    have hcs : cs'[j]? = some v := by
      rw [← hj]
      match j, hjl with
      | 0, _ => exact c0
      | 1, _ => exact c1
      | 2, _ => exact c2
      | 3, _ => exact c3
      | 4, _ => exact c4
      | 5, _ => exact c5
      | 6, _ => exact c6
      | 7, _ => exact c7
      | 8, _ => exact c8
      | 9, _ => exact c9
      | 10, _ => exact c10
      | 11, _ => exact c11
      | 12, _ => exact c12
      | 13, _ => exact c13
      | 14, _ => exact c14
    rw [← hcs, ← hcell j hjl, add_add]
  have hmx : len ≤ 9223372036854775807 := by unfold maxLen at hm; omega
  by_cases hn : len = 0
  · subst hn
    exact ⟨some a, 0, cap, 0, 0, [], rfl, by omega, rfl, by simp, fun h => absurd rfl h⟩
  obtain ⟨p, po, sp⟩ := a
  have hsp : sp = none := by
    obtain ⟨f, _, hy⟩ := each 0 (by omega)
    have hy := hy 0 _ rfl
    cases sp with
    | none => rfl
    | some s =>
      simp only [Addr.add, World.cell?] at hy
      split at hy <;> simp at hy
  subst hsp
  have hex : ∃ fs : List Ft, fs.length = len ∧ (∀ f ∈ fs, f.nm.size ≤ maxLen ∧ f.on.size ≤ maxLen ∧ f.ov.size ≤ maxLen) ∧ ∀ (i : Nat) (f : Ft), fs[i]? = some f → ∀ (j : Nat) (v : Value), (ftc f)[j]? = some v → w.cell? ((⟨p, po, none⟩ : Addr).add (i * 15 + j)) = some v := by
    have : ∀ k, k ≤ len → ∃ fs : List Ft, fs.length = k ∧ (∀ f ∈ fs, f.nm.size ≤ maxLen ∧ f.on.size ≤ maxLen ∧ f.ov.size ≤ maxLen) ∧ ∀ (i : Nat) (f : Ft), fs[i]? = some f → ∀ (j : Nat) (v : Value), (ftc f)[j]? = some v → w.cell? ((⟨p, po, none⟩ : Addr).add (i * 15 + j)) = some v := by
      intro k
      induction k with
      | zero => intro _; exact ⟨[], rfl, by simp, by simp⟩
      | succ k ih =>
        intro hk
        obtain ⟨fs, h1, h2, h3⟩ := ih (by omega)
        obtain ⟨f, h4, h5⟩ := each k (by omega)
        refine ⟨fs ++ [f], by simp [h1], ?_, ?_⟩
        · intro x hx
          rcases List.mem_append.1 hx with e | e
          · exact h2 x e
          · simp only [List.mem_singleton] at e; subst e; exact h4
        · intro i x hi j v hj
          by_cases e : i < k
          · rw [List.getElem?_append_left (by omega)] at hi
            exact h3 i x hi j v hj
          · rw [List.getElem?_append_right (by omega)] at hi
            have e0 : i - fs.length = 0 := by
              rcases Nat.eq_zero_or_pos (i - fs.length) with e | e
              · exact e
              · rw [List.getElem?_eq_none (by simp; omega)] at hi; cases hi
            rw [e0] at hi
            cases hi
            have ei : i = k := by omega
            subst ei
            exact h5 j v hj
    exact this len (Nat.le_refl _)
  obtain ⟨fs, h1, h2, h3⟩ := hex
  refine ⟨_, len, cap, p, po, fs, rfl, hmx, h1, h2, fun _ => ⟨rfl, ?_, ?_⟩⟩
  · obtain ⟨f, _, h0⟩ := each 0 (by omega)
    have h0 := h0 0 _ rfl
    rw [addr_add_none] at h0
    exact cell_lt h0
  · intro i f hi j v hj
    have := h3 i f hi j v hj
    rw [addr_add_none, ← Nat.add_assoc] at this
    exact this
end Go.Proofs.Ytkkmikgeppkhiaa
