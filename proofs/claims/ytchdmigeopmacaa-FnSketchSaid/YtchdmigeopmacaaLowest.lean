/-
  The program's lowest coordinates.
-/
import Derived.Test.YtchdmigeopmacaaRelax
namespace Go.Proofs.Ytchdmigeopmacaa
open Go.ChangeShapes Go.WideShapes Go.ChangeAt Go.RowKit
set_option linter.unusedVariables false
set_option linter.unusedSimpArgs false

theorem coords_any (N : Nat) (w : World) (h : N ≤ 24) : Calls Try.prog 31 #[.int .i64 (N : Int)] w fun e w' => e = .returned (.int .i64 (2 * (N : Int) + 1)) ∧ w' = w := by
  go_enter Try.func31, Try.ntmps31
  go_wp2
  go_ret
  exact ⟨rfl, rfl⟩

set_option maxHeartbeats 1000000 in
theorem max_any (n g : Nat) (a : List Int) (w : World) (hn : 1 ≤ n) (hn2 : n ≤ 1000) (HL : Hid (a.length = n)) (HG : Hid (iblk w g 3 a)) (HB : Hid (Bd 1000000000000 a)) :
    Calls Try.prog 48 #[.slice (some ⟨g, 0, none⟩) n n] w fun e w' => (∃ M, e = .returned (.int .i64 M) ∧ (∀ i, i < n → gt a i ≤ M) ∧ ∃ i, i < n ∧ gt a i = M) ∧ Same w w' := by
  have t0 : decide ((n : Int) < 1) = false := decide_eq_false (by omega)
  have n1 : (0 : Int) < (n : Int) := by omega
  have m0 : w.cell? ⟨g, 0, none⟩ = some (.int .i64 (gt a 0)) := (unhide HG).cell (gt_some (by rw [unhide HL]; omega))
  generalize hX0 : gt a 0 = X0 at m0
  have HX0 := hide hX0
  clear hX0
  go_enter Try.func48, Try.ntmps48
  go_wp2_with fail
  go_loopw [3, 4] (fun m s W => ∃ (i : Nat) (M : Int), s = .int .i64 (i : Int) ∧ m = .int .i64 M ∧ 1 ≤ i ∧ i ≤ n ∧ (∀ j, j < i → gt a j ≤ M) ∧ (∃ j, j < i ∧ gt a j = M) ∧ Same w W) (fun _ s _ => n - (intOf s).toNat)
  case atStart =>
    refine ⟨1, X0, rfl, rfl, Nat.le_refl _, hn, fun j hj => ?_, ⟨0, by omega, unhide HX0⟩, Same.refl _⟩
    rw [show j = 0 by omega, unhide HX0]
    exact Int.le_refl _
  case round =>
    obtain ⟨i, M, rfl, rfl, hi1, hi, h1, h2, hw⟩ := hrel
    have HW := hide hw
    clear hw
    have H1 := hide h1
    have H2 := hide h2
    clear h1 h2
    by_cases h : i < n
    · have i1 : (i : Int) < (n : Int) := by omega
      have i0 : (0 : Int) ≤ (i : Int) := Int.natCast_nonneg _
      have iz : decide ((i : Int) < (n : Int)) = true := decide_eq_true i1
      have m1 : wr.cell? ⟨g, i, none⟩ = some (.int .i64 (gt a i)) := ((unhide HW).cell _).trans ((unhide HG).cell (gt_some (by rw [unhide HL]; exact h)))
      generalize hX : gt a i = X at m1
      have HX := hide hX
      clear hX
      go_wp2_with fail
      go_roundw
      case rel =>
        refine ⟨i + 1, if M < X then X else M, by simp, rfl, by omega, h, fun j hj => ?_, ?_, by repeat (first | exact unhide HW | refine Same.drew ?_)⟩
        · by_cases hj2 : j < i
          · have := unhide H1 j hj2
            split <;> omega
          · rw [show j = i by omega, unhide HX]
            split <;> omega
        · by_cases hm : M < X
          · rw [if_pos hm]
            exact ⟨i, by omega, unhide HX⟩
          · rw [if_neg hm]
            obtain ⟨j, hj, he⟩ := unhide H2
            exact ⟨j, by omega, he⟩
      case measure => simp only [intOf]; omega
    · have i1 : ¬ (i : Int) < (n : Int) := by omega
      have iz : decide ((i : Int) < (n : Int)) = false := decide_eq_false i1
      have en : i = n := by omega
      subst en
      go_wp2_with fail
      go_ret
      exact ⟨⟨M, rfl, unhide H1, unhide H2⟩, unhide HW⟩

theorem passF_bd {n : Nat} : ∀ (es : List Edge) (M : Int) (s : List Int × Bool), s.1.length = n → (∀ e ∈ es, e.2.1 < n ∧ e.2.2 ≤ 100000) → 0 ≤ M → Bd M s.1 → Bd (M + 100000 * es.length) (passF es s).1 := by
  intro es
  induction es with
  | nil => intro M s _ _ _ h; simpa [passF] using h
  | cons e es ih =>
    intro M s hl he hM h
    have h1 := he e List.mem_cons_self
    have := ih (M + 100000) (step s e) (by rw [step_len, hl]) (fun x hx => he x (List.mem_cons_of_mem _ hx)) (by omega) (step_bd hl h1.1 h h1.2 hM)
    refine this.mono ?_
    rw [List.length_cons]
    omega
theorem spE_len (s : Sp) : (spE s).length ≤ 2 := by unfold spE; split <;> simp
/-- the span lies among n coordinates -/
def spIn (n : Nat) (s : Sp) : Prop := s.1 < n ∧ s.2.1 < n ∧ -100000 ≤ s.2.2.1 ∧ s.2.2.1 ≤ 100000
theorem spE_in {n : Nat} {s : Sp} (h : spIn n s) : ∀ e ∈ spE s, e.1 < n ∧ e.2.1 < n ∧ e.2.2 ≤ 100000 := by
  obtain ⟨h1, h2, h3, h4⟩ := h
  intro e he
  unfold spE at he
  split at he
  · rcases List.mem_cons.1 he with rfl | he
    · exact ⟨h1, h2, h4⟩
    · rw [List.mem_singleton] at he
      subst he
      exact ⟨h2, h1, by show -s.2.2.1 ≤ 100000; omega⟩
  · rw [List.mem_singleton] at he
    subst he
    exact ⟨h1, h2, h4⟩
theorem spR_in {N : Nat} {r : Ru} (h : ruOk (N : Int) r = true) : ∀ s ∈ spR r, spIn (2 * N + 1) s := by
  obtain ⟨k, a, b, m⟩ := r
  obtain ⟨h1, h2, h3, h4⟩ := of_decide_eq_true h
  simp only at h1 h2 h3 h4
  have ha : a.toNat < N := by omega
  have hm : -100000 ≤ m ∧ m ≤ 100000 := by split at h4 <;> omega
  have hb : 3 ≤ k → b.toNat < N := fun h => by rw [if_pos h] at h3; omega
  intro s hs
  unfold spR at hs
  simp only at hs
  unfold spIn
  repeat' split at hs
  all_goals
    simp only [List.mem_cons, List.not_mem_nil, or_false] at hs
  all_goals first
    | (subst hs; simp only; have hb' := hb (by omega); omega)
    | (subst hs; simp only; omega)
    | (have hb' := hb (by omega); rcases hs with rfl | rfl <;> simp only <;> omega)
theorem pass_take {ss : List Sp} {i : Nat} {s : Sp} (st : List Int × Bool) (h : ss[i]? = some s) : passF ((ss.take (i + 1)).flatMap spE) st = passF (spE s) (passF ((ss.take i).flatMap spE) st) := by
  unfold passF
  rw [List.take_add_one, h, ← List.foldl_append]
  simp
theorem own_form {w : World} {B t k : Nat} {v : Value} {n : Nat} {xs : List Value} (h : w.ownsRow B t k v n xs) :
    ∃ (u : Option Addr) (cap : Nat), v = .slice u n cap ∧ (n ≠ 0 → ∃ g, u = some ⟨g, 0, none⟩ ∧ B ≤ g ∧ g < w.heap.size ∧ ∀ j x, xs[j]? = some x → w.cell? ⟨g, j, none⟩ = some x) := by
  rcases h.2 with ⟨rfl, rfl⟩ | ⟨g, cap, cur, rfl, hb, hh, hn, hm, hs, ht⟩
  · exact ⟨none, 0, rfl, fun h => absurd rfl h⟩
  · refine ⟨_, cap, rfl, fun _ => ⟨g, rfl, hb, (Array.getElem?_eq_some_iff.1 hh).1, ?_⟩⟩
    intro j x hj
    have h1 : (cur.toList.take (n * k))[j]? = some x := by rw [ht, hj]
    simp only [World.cell?]
    rw [hh]
    rw [List.getElem?_take] at h1
    split at h1
    · simpa using h1
    · cases h1
end Go.Proofs.Ytchdmigeopmacaa
