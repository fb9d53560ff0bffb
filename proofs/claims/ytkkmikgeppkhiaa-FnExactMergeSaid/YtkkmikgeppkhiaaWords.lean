/-
  How many bytes of a name stand at the beginning of a text, and what is a name, by the model.
-/
import Derived.Test.YtkkmikgeppkhiaaLetters
namespace Go.Proofs.Ytkkmikgeppkhiaa
open Go.ChangeShapes Go.WideShapes Go.ChangeAt Go.RowKit
set_option linter.unusedVariables false
set_option linter.unusedSimpArgs false

theorem step_let (s : ByteArray) (k : Nat) (h : letN s k ≠ 0) : stepN s k = letN s k := by simp [stepN, h]
theorem step_dig (s : ByteArray) (k : Nat) (hk : k < s.size) (h : letN s k = 0) (h0 : 0 < k) (h1 : 48 ≤ (s[k]'hk).toNat) (h2 : (s[k]'hk).toNat ≤ 57) : stepN s k = 1 := by
  have e : isDigit (at' s k) = true := decide_eq_true (by rw [get_eq s k hk]; exact ⟨h1, h2⟩)
  simp [stepN, h, h0, e]
theorem step_no (s : ByteArray) (k : Nat) (hk : k < s.size) (h : letN s k = 0) (h0 : k = 0 ∨ (s[k]'hk).toNat < 48 ∨ 57 < (s[k]'hk).toNat) : stepN s k = 0 := by
  rcases h0 with h0 | h0
  · subst h0; simp [stepN, h]
  · have e : isDigit (at' s k) = false := decide_eq_false (by rw [get_eq s k hk]; omega)
    simp [stepN, h, e]

/-- what stands of the way at place k: the end is the same from there on -/
def On (s : ByteArray) (E k : Nat) : Prop := ∃ f, s.size ≤ k + f ∧ endOf s f k = E
theorem on_start (s : ByteArray) : On s (endOf s s.size 0) 0 := ⟨s.size, by omega, rfl⟩
theorem on_step {s : ByteArray} {E k : Nat} (h : On s E k) (hk : k < s.size) (hs : stepN s k ≠ 0) : On s E (k + stepN s k) := by
  obtain ⟨f, hf, he⟩ := h
  obtain ⟨e1, e2⟩ := endOf_step s f k hk hf hs
  exact ⟨f - 1, e2, by rw [← e1]; exact he⟩
theorem on_stop {s : ByteArray} {E k : Nat} (h : On s E k) (hs : stepN s k = 0) : E = k := by
  obtain ⟨f, hf, he⟩ := h
  rw [← he, endOf_stop s f k hs]
theorem on_end {s : ByteArray} {E k : Nat} (h : On s E k) (hs : ¬ k < s.size) : E = k := by
  obtain ⟨f, hf, he⟩ := h
  rw [← he, endOf_ge s f k hs]

set_option maxRecDepth 100000 in
set_option maxHeartbeats 1000000 in
theorem word_any (s : ByteArray) (w : World) (hs : s.size ≤ maxLen) :
    Calls Try.prog 90 #[.string s, .int .i64 0] w fun e w' => e = .returned (.int .i64 (endOf s s.size 0 : Int)) ∧ w' = w := by
  have hs0 := hide hs
  unfold maxLen at hs
  generalize hE : endOf s s.size 0 = E
  have HE : Hid (On s E 0) := by rw [← hE]; exact on_start s
  clear hE
  go_enter Try.func90, Try.ntmps90
  go_wp2
  go_loop [5] (fun i => ∃ k : Nat, i = .int .i64 (k : Int) ∧ k ≤ s.size ∧ On s E k) (fun i => s.size - (intOf i).toNat)
  case atStart => exact ⟨0, rfl, by omega, unhide HE⟩
  case round =>
    obtain ⟨k, rfl, hk, hon⟩ := hrel
    have HON := hide hon
    clear hon HE
    by_cases hlt : k < s.size
    · have hle := stepN_le s k hlt
      have hc : (s[k]'hlt).toNat < 256 := UInt8.toNat_lt _
      have HL := hide (fun W => let_any s k W (unhide hs0) hlt)
      have hll := letN_le s k hlt
      by_cases h0 : letN s k = 0
      · by_cases hd : 0 < k ∧ 48 ≤ (s[k]'hlt).toNat ∧ (s[k]'hlt).toNat ≤ 57
        · obtain ⟨d0, d1, d2⟩ := hd
          have hst := step_dig s k hlt h0 d0 d1 d2
          have HN : Hid (On s E (k + 1)) := by have := on_step (unhide HON) hlt (by omega); rw [hst] at this; exact this
          rw [h0] at HL
          clear h0 hst hle hll HON
          have p1 : decide ((0 : Int) < (k : Int)) = true := decide_eq_true (by omega)
          have p2 : decide ((48 : Int) ≤ ((s[k]'hlt).toNat : Int)) = true := decide_eq_true (by omega)
          have p3 : decide (((s[k]'hlt).toNat : Int) ≤ 57) = true := decide_eq_true (by omega)
          go_wp2_with fail
          refine (unhide HL _).mono ?_
          rintro e w1 ⟨rfl, rfl⟩
          go_wp2
          go_round
          case rel => exact ⟨k + 1, by go_num, by omega, unhide HN⟩
          case measure => simp [intOf]; omega
        · have hst := step_no s k hlt h0 (by omega)
          have hEk := on_stop (unhide HON) hst
          have HEK := hide hEk
          rw [h0] at HL
          clear h0 hst hle hll hEk HON
          by_cases d0 : 0 < k
          · have p1 : decide ((0 : Int) < (k : Int)) = true := decide_eq_true (by omega)
            by_cases d1 : 48 ≤ (s[k]'hlt).toNat
            · have p2 : decide ((48 : Int) ≤ ((s[k]'hlt).toNat : Int)) = true := decide_eq_true (by omega)
              have p3 : decide (((s[k]'hlt).toNat : Int) ≤ 57) = false := decide_eq_false (by omega)
              go_wp2_with fail
              refine (unhide HL _).mono ?_
              rintro e w1 ⟨rfl, rfl⟩
              go_wp2
              go_ret
              exact ⟨ret_int (by rw [unhide HEK]), rfl⟩
            · have p2 : decide ((48 : Int) ≤ ((s[k]'hlt).toNat : Int)) = false := decide_eq_false (by omega)
              go_wp2_with fail
              refine (unhide HL _).mono ?_
              rintro e w1 ⟨rfl, rfl⟩
              go_wp2
              go_ret
              exact ⟨ret_int (by rw [unhide HEK]), rfl⟩
          · have p1 : decide ((0 : Int) < (k : Int)) = false := decide_eq_false (by omega)
            go_wp2_with fail
            refine (unhide HL _).mono ?_
            rintro e w1 ⟨rfl, rfl⟩
            go_wp2
            go_ret
            exact ⟨ret_int (by rw [unhide HEK]), rfl⟩
      · have hst := step_let s k h0
        have HN : Hid (On s E (k + letN s k)) := by have := on_step (unhide HON) hlt (by omega); rw [hst] at this; exact this
        clear hst hle HON
        generalize letN s k = L at *
        have p0 : ((L : Int) == 0) = false := by rw [beq_eq_false_iff_ne]; omega
        go_wp2_with fail
        refine (unhide HL _).mono ?_
        rintro e w1 ⟨rfl, rfl⟩
        go_wp2
        go_round
        case rel => exact ⟨k + L, by go_num, by omega, unhide HN⟩
        case measure => simp [intOf]; omega
    · have HEK := hide (on_end (unhide HON) hlt)
      go_wp2
      go_ret
      exact ⟨ret_int (by rw [unhide HEK]), rfl⟩
end Go.Proofs.Ytkkmikgeppkhiaa
