/-
  By how many steps of naming each comes to a goal: what the search keeps.
-/
import Derived.Test.YtkkmikgeppkhiaaChMath
namespace Go.Proofs.Ytkkmikgeppkhiaa
open Go.ChangeShapes Go.WideShapes Go.ChangeAt Go.RowKit
set_option linter.unusedVariables false
set_option linter.unusedSimpArgs false

def nz (st : List Nat) : Nat := st.countP fun x => decide (0 < x)
theorem nz_le (st : List Nat) : nz st ≤ st.length := List.countP_le_length
theorem nz_set {st : List Nat} {m L : Nat} (h : st[m]? = some 0) (hL : 0 < L) : nz (st.set m L) = nz st + 1 := by
  unfold nz
  induction st generalizing m with
  | nil => cases h
  | cons x st ih =>
    cases m with
    | zero =>
      simp only [List.getElem?_cons_zero, Option.some.injEq] at h
      subst h
      simp [hL]
    | succ m =>
      have := ih (m := m) (by simpa using h)
      simp only [List.set_cons_succ, List.countP_cons, this]
      omega
def pos (st : List Nat) (m : Nat) : Prop := ∃ L, st[m]? = some L ∧ 0 < L
theorem pos_set {st : List Nat} {m k L : Nat} (h : pos st k) (hL : 0 < L) : pos (st.set m L) k := by
  obtain ⟨M, h1, h2⟩ := h
  by_cases e : m = k
  · subst e
    exact ⟨L, by rw [List.getElem?_set, if_pos rfl, if_pos (List.getElem?_eq_some_iff.1 h1).1], hL⟩
  · exact ⟨M, by rw [List.getElem?_set, if_neg e]; exact h1, h2⟩
theorem pos_here {st : List Nat} {m L : Nat} (h : m < st.length) (hL : 0 < L) : pos (st.set m L) m := ⟨L, by rw [List.getElem?_set, if_pos rfl, if_pos h], hL⟩
/-- what the search keeps: the first a of those that were reached are looked at -/
structure StI (s : Nat → Option Nat) (n goal : Nat) (st rch : List Nat) (a : Nat) : Prop where
  len : st.length = n
  sound : ∀ m L, st[m]? = some L → 0 < L → First s m goal L
  first : rch[0]? = some goal
  lt : ∀ r ∈ rch, r < n
  rc : ∀ (j r : Nat), 0 < j → rch[j]? = some r → pos st r
  cover : ∀ m, pos st m → m ∈ rch
  looked : ∀ (j r : Nat), j < a → rch[j]? = some r → ∀ m, m < n → s m = some r → pos st m
  cnt : rch.length = 1 + nz st
  al : a ≤ rch.length
theorem StI.start {s : Nat → Option Nat} {n goal : Nat} (h : goal < n) : StI s n goal (List.replicate n 0) [goal] 0 := by
  refine ⟨by simp, ?_, rfl, by simpa using h, ?_, ?_, fun j r hj => by omega, ?_, by simp⟩
  · intro m L h1 h2
    rw [List.getElem?_replicate] at h1
    split at h1 <;> cases h1
    omega
  · intro j r hj h1
    rw [List.getElem?_eq_none (by simp; omega)] at h1
    cases h1
  · rintro m ⟨L, h1, h2⟩
    rw [List.getElem?_replicate] at h1
    split at h1 <;> cases h1
    omega
  · simp [nz, List.countP_replicate]
theorem StI.le {s : Nat → Option Nat} {n goal a : Nat} {st rch : List Nat} (h : StI s n goal st rch a) : rch.length ≤ n + 1 := by
  have := nz_le st
  have := h.cnt
  have := h.len
  omega
/-- who names one that was reached: what will be told of him -/
theorem StI.key {s : Nat → Option Nat} {n goal a r : Nat} {st rch : List Nat} (h : StI s n goal st rch a) (hr : rch[a]? = some r) (hz : a = 0 → nz st = 0) {d : Nat} (hd : st[r]? = some d) :
    ∀ m, m < n → s m = some r → st[m]? = some 0 → First s m goal (d + 1) := by
  intro m hm hs h0
  by_cases e : r = goal
  · subst e
    by_cases ea : a = 0
    · have hd0 : d = 0 := by
        rcases Nat.eq_zero_or_pos d with g | g
        · exact g
        · exfalso
          have h1 := hz ea
          unfold nz at h1
          rw [List.countP_eq_zero] at h1
          have := h1 d (List.mem_of_getElem? hd)
          simp at this
          omega
      rw [hd0]
      exact First.one hs
    · exfalso
      obtain ⟨L, h1, h2⟩ := h.looked 0 r (by omega) h.first m hm hs
      rw [h0] at h1
      cases h1
      omega
  · have ha : 0 < a := by
      rcases Nat.eq_zero_or_pos a with g | g
      · subst g
        rw [h.first] at hr
        cases hr
        exact (e rfl).elim
      · exact g
    obtain ⟨L, h1, h2⟩ := h.rc a r ha hr
    rw [hd] at h1
    cases h1
    exact First.more hs e (h.sound r d hd h2)
theorem StI.put {s : Nat → Option Nat} {n goal a m fu : Nat} {st rch : List Nat} (h : StI s n goal st rch a) (hm : m < n) (h0 : st[m]? = some 0) (hfu : 0 < fu) (hF : First s m goal fu) : StI s n goal (st.set m fu) (rch ++ [m]) a := by
  have hml : m < st.length := by rw [h.len]; exact hm
  refine ⟨by rw [List.length_set]; exact h.len, ?_, ?_, ?_, ?_, ?_, ?_, ?_, by have := h.al; simp; omega⟩
  · intro k L h1 h2
    rw [List.getElem?_set] at h1
    split at h1
    · rename_i e
      subst e
      cases h1
      exact hF
    · exact h.sound k L h1 h2
  · rw [List.getElem?_append_left (by have := (List.getElem?_eq_some_iff.1 h.first).1; exact this)]
    exact h.first
  · intro r hr
    rcases List.mem_append.1 hr with g | g
    · exact h.lt r g
    · simp at g; omega
  · intro j r hj hr
    by_cases hjl : j < rch.length
    · rw [List.getElem?_append_left hjl] at hr
      exact pos_set (h.rc j r hj hr) hfu
    · rw [List.getElem?_append_right (by omega)] at hr
      have : j - rch.length = 0 := by
        rcases Nat.eq_zero_or_pos (j - rch.length) with g | g
        · exact g
        · rw [List.getElem?_eq_none (by simp; omega)] at hr; cases hr
      rw [this] at hr
      cases hr
      exact pos_here hml hfu
  · intro k hk
    by_cases e : k = m
    · subst e; simp
    · obtain ⟨L, h1, h2⟩ := hk
      rw [List.getElem?_set, if_neg (by omega)] at h1
      exact List.mem_append.2 (.inl (h.cover k ⟨L, h1, h2⟩))
  · intro j r hj hr k hk hs
    have hjl : j < rch.length ∨ ¬ j < rch.length := by omega
    rcases hjl with g | g
    · rw [List.getElem?_append_left g] at hr
      exact pos_set (h.looked j r hj hr k hk hs) hfu
    · exfalso
      have := h.al
      omega
  · rw [nz_set h0 hfu]
    have := h.cnt
    simp
    omega
theorem StI.next {s : Nat → Option Nat} {n goal a r : Nat} {st rch : List Nat} (h : StI s n goal st rch a) (hr : rch[a]? = some r) (hl : ∀ m, m < n → s m = some r → pos st m) : StI s n goal st rch (a + 1) := by
  refine ⟨h.len, h.sound, h.first, h.lt, h.rc, h.cover, ?_, h.cnt, (List.getElem?_eq_some_iff.1 hr).1⟩
  intro j q hj hq m hm hs
  by_cases e : j = a
  · subst e
    rw [hr] at hq
    cases hq
    exact hl m hm hs
  · exact h.looked j q (by omega) hq m hm hs
theorem StI.all {s : Nat → Option Nat} {n goal : Nat} {st rch : List Nat} (h : StI s n goal st rch rch.length) (hs : ∀ m p, s m = some p → m < n) : ∀ L m, First s m goal L → pos st m := by
  intro L
  induction L using Nat.strongRecOn with
  | _ L ih =>
    intro m f
    cases e : s m with
    | none => exact (f.no e).elim
    | some r =>
      have hin : r ∈ rch := by
        rcases f.back e with ⟨e1, _⟩ | ⟨_, h1, g⟩
        · subst e1
          exact List.mem_of_getElem? h.first
        · exact h.cover r (ih (L - 1) (by omega) r g)
      obtain ⟨j, hj, e2⟩ := List.getElem_of_mem hin
      exact h.looked j r hj (by rw [List.getElem?_eq_getElem hj, e2]) m (hs m r e) e
theorem First.le {nm : List (List Nat)} (ho : Oneful nm) {i j L : Nat} (f : First (sc nm) i j L) : L ≤ nm.length := by
  have hp : ∀ t, t < L → ∃ p, it (sc nm) t i = some p ∧ p < nm.length := by
    intro t ht
    obtain ⟨p, h1, g⟩ := f.rest ht
    refine ⟨p, h1, ?_⟩
    cases e : sc nm p with
    | none => exact (g.no e).elim
    | some q => exact (sc_lt ho e).1
  rcases Nat.lt_or_ge nm.length L with g | g
  · exfalso
    obtain ⟨a, b, h1, h2, h3⟩ := pigeon nm.length (fun t => (it (sc nm) t i).getD 0) (by
      intro t ht
      obtain ⟨p, e, h⟩ := hp t (by omega)
      simp only [e, Option.getD_some]
      exact h)
    obtain ⟨p, e1, fp⟩ := f.rest (show a < L by omega)
    obtain ⟨q, e2, fq⟩ := f.rest (show b < L by omega)
    simp only [e1, e2, Option.getD_some] at h3
    subst h3
    have := fp.uniq fq
    omega
  · exact g
end Go.Proofs.Ytkkmikgeppkhiaa
