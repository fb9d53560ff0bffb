/-
  What the model reads as a number: some number for every text, and the very one for a numeral.
-/
import Derived.Test.YtidafleegkofkaiDoorTextMath
namespace Go.Proofs.YtidafleegkofkaiDoor
open Go.ChangeShapes Go.WideShapes Go.ChangeAt Go.RowKit
set_option linter.unusedVariables false
set_option linter.unusedSimpArgs false

/-- the text is a numeral of m behind its sign: its digits are told -/
def Dig (s : ByteArray) (m : Nat) : Prop := s.data.toList = Lib.decDigits m

/-- what comes back for a text: some number and a word, and for a numeral of m the number g m and yes -/
def NumPost (s : ByteArray) (g : Nat → Int) (e : Ending) : Prop := ∃ (r : Int) (ok : Bool), e = .returned (.tuple #[.int .i64 r, .bool ok]) ∧ (-1000000000000000000 ≤ r ∧ r ≤ 1000000000000000000) ∧ (∀ m, Dig s m → r = g m ∧ ok = true)
theorem numPost {s : ByteArray} {g : Nat → Int} {e : Ending} (r : Int) (ok : Bool) (h : e = .returned (.tuple #[.int .i64 r, .bool ok])) (hr : -1000000000000000000 ≤ r ∧ r ≤ 1000000000000000000) (hd : ∀ m, Dig s m → r = g m ∧ ok = true) : NumPost s g e := ⟨r, ok, h, hr, hd⟩

theorem decFrom_lt : ∀ (l : List UInt8) (acc n k : Nat), acc < 10 ^ k → Lib.decFrom acc l = some n → n < 10 ^ (k + l.length) := by
  intro l
  induction l with
  | nil => intro acc n k h e; simp [Lib.decFrom] at e; subst e; simpa using h
  | cons b r ih =>
    intro acc n k h e
    simp only [Lib.decFrom] at e
    cases hb : Lib.digitVal b with
    | none => rw [hb] at e; cases e
    | some d =>
      rw [hb] at e
      have hd : d ≤ 9 := by
        unfold Lib.digitVal at hb
        split at hb
        · cases hb; omega
        · cases hb
      have := ih (acc * 10 + d) n (k + 1) (by rw [Nat.pow_succ]; omega) e
      rw [List.length_cons, show k + (r.length + 1) = k + 1 + r.length from by omega]
      exact this

theorem take_lt (s : ByteArray) (k v : Nat) (h2 : s.size ≤ 18) (hk : k ≤ s.size) (h : Lib.decFrom 0 (s.data.toList.take k) = some v) : v < 1000000000000000000 ∧ (k < s.size → v < 100000000000000000) := by
  have hl : (s.data.toList.take k).length = k := by rw [List.length_take, Array.length_toList]; show min k s.size = k; omega
  have h1 := decFrom_lt _ 0 v 0 (by omega) h
  rw [hl] at h1
  have e1 : 10 ^ (0 + k) ≤ 10 ^ 18 := Nat.pow_le_pow_right (by omega) (by omega)
  refine ⟨by omega, fun hlt => ?_⟩
  have e2 : 10 ^ (0 + k) ≤ 10 ^ 17 := Nat.pow_le_pow_right (by omega) (by omega)
  omega
theorem at_list (s : ByteArray) (k : Nat) (h : k < s.size) : s.data.toList[k]? = some (s[k]'h) := by
  rw [List.getElem?_eq_getElem (by rw [Array.length_toList]; exact h)]
  rfl
theorem no_dig (s : ByteArray) (k : Nat) (hlt : k < s.size) (h : (s[k]'hlt).toNat < 48 ∨ 57 < (s[k]'hlt).toNat) (m : Nat) : ¬ Dig s m := by
  intro hd
  unfold Dig at hd
  have hm : (s[k]'hlt) ∈ s.data.toList := List.mem_of_getElem? (at_list s k hlt)
  rw [hd] at hm
  have := dec_bytes m m (Nat.le_refl _) _ hm
  omega
theorem take_step (s : ByteArray) (k v : Nat) (hlt : k < s.size) (h1 : 48 ≤ (s[k]'hlt).toNat) (h2 : (s[k]'hlt).toNat ≤ 57) (h : Lib.decFrom 0 (s.data.toList.take k) = some v) :
    Lib.decFrom 0 (s.data.toList.take (k + 1)) = some (v * 10 + ((s[k]'hlt).toNat - 48)) :=
  Lib.decFrom_take s.data.toList k 0 v (s[k]'hlt) _ h (at_list s k hlt) (by unfold Lib.digitVal; rw [if_pos ⟨h1, h2⟩])
theorem take_all (s : ByteArray) (k v : Nat) (hk : s.size ≤ k) (h : Lib.decFrom 0 (s.data.toList.take k) = some v) (m : Nat) (hd : Dig s m) : v = m := by
  rw [List.take_of_length_le (by rw [Array.length_toList]; exact hk)] at h
  unfold Dig at hd
  rw [hd, dec_read m m (Nat.le_refl _)] at h
  exact (Option.some.inj h).symm

set_option maxRecDepth 100000 in
set_option maxHeartbeats 1000000 in
/-- the loop over the digits, behind the sign: s has 1 to 18 bytes -/
theorem num_plain (s : ByteArray) (w : World) (h1 : 1 ≤ s.size) (h2 : s.size ≤ 18) (hneg : ((s[0]'(by omega)).toNat : Int) ≠ 45) (hz : (s[0]'(by omega)).toNat ≠ 48 ∨ s.size = 1) :
    Calls Tryd.prog 16 #[.string s] w fun e w' => NumPost s (fun m => (m : Int)) e ∧ w' = w := by
  have p0 : decide ((0 : Int) < (s.size : Int)) = true := decide_eq_true (by omega)
  have p1 : (((s[0]'(by omega)).toNat : Int) == 45) = false := by rw [beq_eq_false_iff_ne]; exact hneg
  have p2 : ((s.size : Int) == 0) = false := by rw [beq_eq_false_iff_ne]; omega
  have p3 : decide ((18 : Int) < (s.size : Int)) = false := decide_eq_false (by omega)
  have hc0 : (s[0]'(by omega)).toNat < 256 := UInt8.toNat_lt _
  by_cases h48 : (s[0]'(by omega)).toNat = 48
  · have p4 : (((s[0]'(by omega)).toNat : Int) == 48) = true := by rw [beq_iff_eq]; omega
    have p5 : decide ((1 : Int) < (s.size : Int)) = false := decide_eq_false (by omega)
    clear h48 hz hneg
    go_enter Tryd.func16, Tryd.ntmps16
    go_wp2
    go_loop [5, 6] (fun n i => ∃ k v : Nat, i = .int .i64 (k : Int) ∧ n = .int .i64 (v : Int) ∧ k ≤ s.size ∧ Lib.decFrom 0 (s.data.toList.take k) = some v) (fun _ i => s.size - (intOf i).toNat)
    case atStart => exact ⟨0, 0, rfl, rfl, by omega, rfl⟩
    case round =>
      obtain ⟨k, v, rfl, rfl, hk, hv⟩ := hrel
      have HV := hide hv
      have hvb := take_lt s k v h2 hk hv
      clear hv
      by_cases hlt : k < s.size
      · have hc : (s[k]'hlt).toNat < 256 := UInt8.toNat_lt _
        by_cases c1 : (s[k]'hlt).toNat < 48
        · have e1 : decide (((s[k]'hlt).toNat : Int) < 48) = true := decide_eq_true (by omega)
          have HN := hide (no_dig s k hlt (Or.inl c1))
          go_wp2
          go_ret2
          exact ⟨numPost 0 false rfl (by omega) (fun m hm => absurd hm (unhide HN m)), rfl⟩
        · have e1 : decide (((s[k]'hlt).toNat : Int) < 48) = false := decide_eq_false (by omega)
          by_cases c2 : 57 < (s[k]'hlt).toNat
          · have e2 : decide ((57 : Int) < ((s[k]'hlt).toNat : Int)) = true := decide_eq_true (by omega)
            have HN := hide (no_dig s k hlt (Or.inr c2))
            go_wp2
            go_ret2
            exact ⟨numPost 0 false rfl (by omega) (fun m hm => absurd hm (unhide HN m)), rfl⟩
          · have e2 : decide ((57 : Int) < ((s[k]'hlt).toNat : Int)) = false := decide_eq_false (by omega)
            have HN := hide (take_step s k v hlt (by omega) (by omega) (unhide HV))
            go_wp2
            go_round
            case rel => exact ⟨k + 1, v * 10 + ((s[k]'hlt).toNat - 48), by go_num, by first | go_num | (congr 1; omega), by omega, unhide HN⟩
            case measure => simp [intOf]; omega
      · have HN := hide (take_all s k v (by omega) (unhide HV))
        go_wp2
        go_ret2
        exact ⟨numPost (v : Int) true rfl (by omega) (fun m hm => ⟨by rw [unhide HN m hm], rfl⟩), rfl⟩
  · have p4 : (((s[0]'(by omega)).toNat : Int) == 48) = false := by rw [beq_eq_false_iff_ne]; omega
    clear h48 hz hneg
    go_enter Tryd.func16, Tryd.ntmps16
    go_wp2
    go_loop [5, 6] (fun n i => ∃ k v : Nat, i = .int .i64 (k : Int) ∧ n = .int .i64 (v : Int) ∧ k ≤ s.size ∧ Lib.decFrom 0 (s.data.toList.take k) = some v) (fun _ i => s.size - (intOf i).toNat)
    case atStart => exact ⟨0, 0, rfl, rfl, by omega, rfl⟩
    case round =>
      obtain ⟨k, v, rfl, rfl, hk, hv⟩ := hrel
      have HV := hide hv
      have hvb := take_lt s k v h2 hk hv
      clear hv
      by_cases hlt : k < s.size
      · have hc : (s[k]'hlt).toNat < 256 := UInt8.toNat_lt _
        by_cases c1 : (s[k]'hlt).toNat < 48
        · have e1 : decide (((s[k]'hlt).toNat : Int) < 48) = true := decide_eq_true (by omega)
          have HN := hide (no_dig s k hlt (Or.inl c1))
          go_wp2
          go_ret2
          exact ⟨numPost 0 false rfl (by omega) (fun m hm => absurd hm (unhide HN m)), rfl⟩
        · have e1 : decide (((s[k]'hlt).toNat : Int) < 48) = false := decide_eq_false (by omega)
          by_cases c2 : 57 < (s[k]'hlt).toNat
          · have e2 : decide ((57 : Int) < ((s[k]'hlt).toNat : Int)) = true := decide_eq_true (by omega)
            have HN := hide (no_dig s k hlt (Or.inr c2))
            go_wp2
            go_ret2
            exact ⟨numPost 0 false rfl (by omega) (fun m hm => absurd hm (unhide HN m)), rfl⟩
          · have e2 : decide ((57 : Int) < ((s[k]'hlt).toNat : Int)) = false := decide_eq_false (by omega)
            have HN := hide (take_step s k v hlt (by omega) (by omega) (unhide HV))
            go_wp2
            go_round
            case rel => exact ⟨k + 1, v * 10 + ((s[k]'hlt).toNat - 48), by go_num, by first | go_num | (congr 1; omega), by omega, unhide HN⟩
            case measure => simp [intOf]; omega
      · have HN := hide (take_all s k v (by omega) (unhide HV))
        go_wp2
        go_ret2
        exact ⟨numPost (v : Int) true rfl (by omega) (fun m hm => ⟨by rw [unhide HN m hm], rfl⟩), rfl⟩
end Go.Proofs.YtidafleegkofkaiDoor
