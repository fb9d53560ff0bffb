/-
  The first plate in the way, and pushing.
-/
import Derived.Test.YtoidhlackoigkaaNsOv
namespace Go.Proofs.Ytoidhlackoigkaa
open Go.ChangeShapes Go.WideShapes Go.ChangeAt Go.RowKit
set_option linter.unusedVariables false
set_option linter.unusedSimpArgs false

/-- the cells of a row of laid plates -/
def LdAt (w : World) (b po : Nat) (L : List Ld) : Prop := ∀ j l, L[j]? = some l → ∀ k v, (ldC l)[k]? = some v → w.cell? ⟨b, po + j * 6 + k, none⟩ = some v
def Lds (w : World) (u : Option Addr) (b po : Nat) (L : List Ld) : Prop := L ≠ [] → u = some ⟨b, po, none⟩ ∧ b < w.heap.size ∧ LdAt w b po L
theorem Lds.bel {w w' : World} {u : Option Addr} {b po : Nat} {L : List Ld} (h : Lds w u b po L) (hb : Below w.heap.size w w') : Lds w' u b po L := fun hn => by
  obtain ⟨h1, h2, h3⟩ := h hn
  refine ⟨h1, Nat.lt_of_lt_of_le h2 hb.size, fun j l hj k v hk => ?_⟩
  exact keep1 hb (h3 j l hj k v hk)
theorem Lds.at {w : World} {u : Option Addr} {b po : Nat} {L : List Ld} (h : Lds w u b po L) {j : Nat} {l : Ld} (hj : L[j]? = some l) : u = some ⟨b, po, none⟩ ∧ b < w.heap.size ∧ ∀ k v, (ldC l)[k]? = some v → w.cell? ⟨b, po + j * 6 + k, none⟩ = some v := by
  obtain ⟨h1, h2, h3⟩ := h (by intro e; rw [e] at hj; cases hj)
  exact ⟨h1, h2, h3 j l hj⟩
/-- what the search for one in the way tells -/
def InWay (a : Rc) (L : List Ld) (r : Int) : Prop := (r = -1 ∧ ∀ l ∈ L, ovr a l.a = false) ∨ ∃ (j : Nat) (l : Ld), r = (j : Int) ∧ L[j]? = some l ∧ ovr a l.a = true
set_option maxHeartbeats 2000000 in
theorem ixP_any (u : Option Addr) (b po n c : Nat) (L : List Ld) (q : Ld) (w : World) (hl : L.length = n) (hn : n ≤ 1000000) (hu : Lds w u b po L) (hs : ∀ l ∈ L, Sm l.a) (hq : Sm q.a) :
    Calls Try.prog 57 #[.slice u n c, .func (.func 58) #[ldV q.n q.t q.a] #[]] w fun e w' => (∃ r : Int, e = .returned (.int .i64 r) ∧ InWay q.a L r) ∧ Below w.heap.size w w' := by
  have HU := hide (fun W (hW : Below w.heap.size w W) => hu.bel hW)
  have HL := hide hl
  have HOV : Hid (∀ l ∈ L, ∀ W, Calls Try.prog 58 #[ldV q.n q.t q.a, ldV l.n l.t l.a] W fun e w' => e = .returned (.bool (ovr q.a l.a)) ∧ Below W.heap.size W w') := hide (fun l hl' W => over_any q l W hq (hs l hl'))
  have n0 : (0 : Int) ≤ (n : Int) := Int.natCast_nonneg _
  clear hu hl hs hq
  generalize hqv : ldV q.n q.t q.a = qv at HOV ⊢
  clear hqv
  go_enter Try.func57, Try.ntmps57
  go_wp2_with fail
  go_loopw [5, 8] (fun _ s W => ∃ i : Nat, s = .int .i64 (i : Int) ∧ i ≤ n ∧ (∀ l ∈ L.take i, ovr q.a l.a = false) ∧ Below w.heap.size w W) (fun _ s _ => n - (intOf s).toNat)
  case atStart => exact ⟨0, rfl, Nat.zero_le _, by simp, Below.refl _ _⟩
  case round =>
    obtain ⟨i, rfl, hi, ha, hb⟩ := hrel
    have HA := hide ha
    have HB := hide hb
    clear ha
    by_cases h : i < n
    · have i1 : (i : Int) < (n : Int) := by omega
      have i0 : (0 : Int) ≤ (i : Int) := Int.natCast_nonneg _
      have iz : decide ((i : Int) < (n : Int)) = true := decide_eq_true i1
      obtain ⟨l, hx⟩ := get_some (unhide HL) h
      obtain ⟨rfl, pw, k9⟩ := (unhide HU _ hb).at hx
      have k0 := k9 0 _ rfl
      have k1 := k9 1 _ rfl
      have k2 := k9 2 _ rfl
      have k3 := k9 3 _ rfl
      have k4 := k9 4 _ rfl
      have k5 := k9 5 _ rfl
      rw [Nat.add_zero] at k0
      have HC := hide (unhide HOV l (List.mem_of_getElem? hx))
      have HX := hide hx
      unfold ldV at HC
      clear hx k9 hb pw
      go_wp2_with fail
      refine (unhide HC _).mono ?_
      rintro e W2 ⟨rfl, hb2⟩
      have HB2 := hide (bc (unhide HB) hb2)
      clear hb2
      cases ho : ovr q.a l.a with
      | true =>
        have HW : Hid (InWay q.a L (i : Int)) := hide (Or.inr ⟨i, l, rfl, unhide HX, ho⟩)
        go_wp2_with fail
        go_ret
        exact ⟨⟨_, rfl, unhide HW⟩, unhide HB2⟩
      | false =>
        have HN : Hid (∀ l ∈ L.take (i + 1), ovr q.a l.a = false) := hide (by
          rw [List.take_add_one, unhide HX]
          intro l' hl'
          rcases List.mem_append.1 hl' with h8 | h8
          · exact unhide HA l' h8
          · simp at h8; subst h8; exact ho)
        go_wp2_with fail
        go_roundw
        case rel => first | exact ⟨i + 1, by simp, by omega, unhide HN, unhide HB2⟩ | ((repeat apply Exists.intro); refine ⟨?_, rfl⟩; exact ⟨i + 1, by simp, by omega, unhide HN, unhide HB2⟩)
        case measure => first | (simp only [intOf]; omega) | (simp [intOf]; omega)
    · have iz : decide ((i : Int) < (n : Int)) = false := decide_eq_false (by omega)
      obtain rfl : n = i := by omega
      have HW : Hid (InWay q.a L (-1)) := hide (Or.inl ⟨rfl, fun l hl' => unhide HA l (by rw [List.take_of_length_le (Nat.le_of_eq (unhide HL))]; exact hl')⟩)
      clear hb
      go_wp2_with fail
      go_ret
      exact ⟨⟨_, rfl, unhide HW⟩, unhide HB⟩
end Go.Proofs.Ytoidhlackoigkaa
