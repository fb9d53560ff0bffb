/-
  An append to a full slice: always a new block; and slices.Clip.
-/
import Derived.Test.YtoidhlackoigkaaApN
import Derived.Test.YtoidhlackoigkaaNsPu
namespace Go.Proofs.Ytoidhlackoigkaa
open Go.ChangeShapes Go.WideShapes Go.ChangeAt Go.RowKit
set_option linter.unusedVariables false
set_option linter.unusedSimpArgs false

theorem run_append_full {P : Program} (w : World) (t ty e : TypeId) (i : TypeInfo) (z : Value) (size bytes : Nat) (ht : P.underlying t = some (.slice e)) (hi : P.info? e = some i) (hz : i.zero = some z) (hsize : i.size = size) (hby : i.bytes = bytes)
    (u : Option Addr) (n : Nat) (olds : List Value) (hlo : olds.length = n * size) (hu : n ≠ 0 → ∃ b, u = some b ∧ ∀ j v, olds[j]? = some v → w.cell? (b.add j) = some v) (hu0 : n = 0 → u = none)
    (a : Addr) (c : Nat) (news : List Value) (hl : news.length = 1 * size) (hnews : ∀ j v, news[j]? = some v → w.cell? (a.add j) = some v) (hn : n ≤ 100000) (hb : (n + 1) * bytes ≤ 140737488355328) :
    ∃ cap w', (Builtin.append_ #[t, t] ty #[.slice u n n, .slice (some a) 1 c]).run P w = .ok (.slice (some ⟨w.heap.size, 0, none⟩) (n + 1) cap) w' ∧ n + 1 ≤ cap ∧ cap ≤ maxLen ∧ Below w.heap.size w w' ∧ w.heap.size < w'.heap.size ∧ ∀ j x, (olds ++ news)[j]? = some x → w'.cell? ⟨w.heap.size, j, none⟩ = some x := by
  subst hsize
  subst hby
  have hcell : ∀ (zs : Array Value) (j : Nat) (x : Value), (olds ++ news)[j]? = some x → (w.drew.alloc (.cells (olds.toArray ++ news.toArray ++ zs) e)).cell? ⟨w.heap.size, j, none⟩ = some x := by
    intro zs j x hj
    have hjl := (List.getElem?_eq_some_iff.1 hj).1
    have hb2 : (w.drew.alloc (.cells (olds.toArray ++ news.toArray ++ zs) e)).heap[w.heap.size]? = some (.cells (olds.toArray ++ news.toArray ++ zs) e) := by
      show (w.heap.push _)[w.heap.size]? = _
      rw [Array.getElem?_push_size]
    simp only [World.cell?]
    rw [hb2]
    simp only
    rw [Array.getElem?_append_left (by simpa using hjl), List.append_toArray]
    simpa using hj
  by_cases h0 : n = 0
  · have hu' := hu0 h0
    subst hu' h0
    have ho : olds = [] := List.eq_nil_of_length_eq_zero (by simpa using hlo)
    subst ho
    have hr := run_append_nil (P := P) w t ty e i z ht hi hz a 1 c news hl hnews (by omega) (by omega) (by omega)
    refine ⟨_, _, hr, grownCap_ge _ _ _ _, grownCap_le_maxLen _ _ _ _ (by unfold maxLen; omega), Below.alloc (Below.drew (Below.refl _ _)) (by simp) _, by simp, fun j x hj => ?_⟩
    have := hcell (Builtin.zeroCells z.cells (grownCap w 1 0 e - 1)) j x hj
    simpa using this
  · obtain ⟨b, rfl, hcs⟩ := hu h0
    have hr := run_append_grow (P := P) w t ty e i z ht hi hz b n n olds hlo hcs a 1 c news hl hnews (by omega) (by omega) (growslice_fits (by omega) hb)
    exact ⟨_, _, hr, grownCap_ge _ _ _ _, grownCap_le_maxLen _ _ _ _ (by unfold maxLen; omega), Below.alloc (Below.drew (Below.refl _ _)) (by simp) _, by simp, fun j x hj => hcell _ j x hj⟩
theorem wp_append_full {P : Program} (w : World) {o : Oper} {a : Act} {K : Act → World → Prop} {Q : Exit → Act → World → Prop} (s x : Operand) (t : TypeId)
    (ho : o.op = .call { callee := .builtin .append, args := #[s, x], argTypes := #[t, t] })
    (e : TypeId) (i : TypeInfo) (z : Value) (size bytes : Nat) (ht : P.underlying t = some (.slice e)) (hi : P.info? e = some i) (hz : i.zero = some z) (hsize : i.size = size) (hby : i.bytes = bytes)
    (u : Option Addr) (n : Nat) (olds : List Value) (hs : a.eval s = .slice u n n) (hlo : olds.length = n * size) (hu : n ≠ 0 → ∃ b, u = some b ∧ ∀ j v, olds[j]? = some v → w.cell? (b.add j) = some v) (hu0 : n = 0 → u = none)
    (ad : Addr) (c : Nat) (news : List Value) (hx : a.eval x = .slice (some ad) 1 c) (hl : news.length = 1 * size) (hnews : ∀ j v, news[j]? = some v → w.cell? (ad.add j) = some v) (hn : n ≤ 100000) (hb : (n + 1) * bytes ≤ 140737488355328)
    (h : ∀ cap w', n + 1 ≤ cap → cap ≤ maxLen → Below w.heap.size w w' → w.heap.size < w'.heap.size → (∀ j x, (olds ++ news)[j]? = some x → w'.cell? ⟨w.heap.size, j, none⟩ = some x) → K (a.put o.dst (.slice (some ⟨w.heap.size, 0, none⟩) (n + 1) cap)) w') : o.wp P a w K Q := by
  obtain ⟨cap, w', hr, h1, h2, h3, h4, h5⟩ := run_append_full (P := P) w t o.type e i z size bytes ht hi hz hsize hby u n olds hlo hu hu0 ad c news hl hnews hn hb
  unfold Oper.wp execOp
  simp only [ho, resolve, invoke, builtin, Sem.run_bind, Sem.run_pure, Result.andThen_ok, List.map_toArray, List.map_cons, List.map_nil, hs, hx, hr]
  exact h cap w' h1 h2 h3 h4 h5
/-- the cells of laid plates -/
def flatL (L : List Ld) : List Value := L.flatMap ldC
theorem flatL_len (L : List Ld) : (flatL L).length = L.length * 6 := by
  induction L with
  | nil => rfl
  | cons s S ih => simp only [flatL, List.flatMap_cons, List.length_append, List.length_cons] at ih ⊢; rw [ih]; simp [ldC]; omega
theorem flatL_app (A B : List Ld) : flatL (A ++ B) = flatL A ++ flatL B := by simp [flatL]
theorem flatL_at {L : List Ld} {i j : Nat} {l : Ld} {v : Value} (h : L[i]? = some l) (hv : (ldC l)[j]? = some v) : (flatL L)[i * 6 + j]? = some v := by
  induction L generalizing i with
  | nil => cases h
  | cons s L ih =>
    have hj : j < 6 := (List.getElem?_eq_some_iff.1 hv).1
    cases i with
    | zero =>
      simp at h; subst h
      simp only [flatL, List.flatMap_cons]
      rw [List.getElem?_append_left (by simpa [ldC] using hj), Nat.zero_mul, Nat.zero_add]
      exact hv
    | succ i =>
      have := ih (i := i) (by simpa using h)
      simp only [flatL, List.flatMap_cons] at this ⊢
      rw [List.getElem?_append_right (by simp [ldC]; omega), ← this]
      simp only [ldC, List.length_cons, List.length_nil]
      congr 1
      omega
theorem flatL_ex {L : List Ld} {m : Nat} {v : Value} (h : (flatL L)[m]? = some v) : ∃ i j l, m = i * 6 + j ∧ L[i]? = some l ∧ (ldC l)[j]? = some v := by
  induction L generalizing m with
  | nil => cases h
  | cons s L ih =>
    simp only [flatL, List.flatMap_cons] at h
    by_cases hm : m < 6
    · rw [List.getElem?_append_left (by simpa [ldC] using hm)] at h
      exact ⟨0, m, s, by omega, rfl, h⟩
    · rw [List.getElem?_append_right (by simp [ldC]; omega)] at h
      obtain ⟨i, j, l, h1, h2, h3⟩ := ih h
      simp only [ldC, List.length_cons, List.length_nil] at h1
      exact ⟨i + 1, j, l, by omega, by simpa using h2, h3⟩
theorem Lds.olds {w : World} {u : Option Addr} {b po n : Nat} {L : List Ld} (h : Lds w u b po L) (hl : L.length = n) : n ≠ 0 → ∃ ad, u = some ad ∧ ∀ j v, (flatL L)[j]? = some v → w.cell? (ad.add j) = some v := by
  intro hn
  obtain ⟨h1, h2, h3⟩ := h (by intro e; subst e; exact hn hl.symm)
  refine ⟨⟨b, po, none⟩, h1, fun j v hj => ?_⟩
  obtain ⟨i, k, l, rfl, hi, hv⟩ := flatL_ex hj
  have := h3 i l hi k v hv
  rw [add_none, ← Nat.add_assoc]
  exact this
theorem lds_new {w : World} {g : Nat} {L : List Ld} (hg : g < w.heap.size) (h : ∀ j x, (flatL L)[j]? = some x → w.cell? ⟨g, j, none⟩ = some x) : Lds w (some ⟨g, 0, none⟩) g 0 L :=
  fun _ => ⟨rfl, hg, fun i l hi k v hv => by rw [Nat.zero_add]; exact h _ _ (flatL_at hi hv)⟩
theorem clip_any (u : Option Addr) (n c : Nat) (w : World) (hc : n ≤ c) (hn : n ≤ 100000) (hu0 : u = none → c = 0) : Calls Try.prog 44 #[.slice u n c] w fun e w' => e = .returned (.slice u n n) ∧ w' = w := by
  have n0 : (0 : Int) ≤ (n : Int) := Int.natCast_nonneg _
  have nc : (n : Int) ≤ (c : Int) := by omega
  cases u with
  | none =>
    have := hu0 rfl
    subst this
    obtain rfl : n = 0 := by omega
    go_enter Try.func44, Try.ntmps44
    go_wp2
    go_ret
    exact ⟨rfl, rfl⟩
  | some ad =>
    obtain ⟨g, o, sp⟩ := ad
    go_enter Try.func44, Try.ntmps44
    go_wp2
    go_ret
    exact ⟨rfl, rfl⟩
end Go.Proofs.Ytoidhlackoigkaa
