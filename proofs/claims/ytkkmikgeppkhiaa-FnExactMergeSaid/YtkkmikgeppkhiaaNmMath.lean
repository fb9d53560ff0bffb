/-
  What a name is, byte by byte and rune by rune: the two readings come to the same.
-/
import Derived.Laws.RangeAny
import Derived.ProofKit
namespace Go.Proofs.Ytkkmikgeppkhiaa

/-- the byte at a place, as a number; 0 beyond the end -/
def at' (s : ByteArray) (i : Nat) : Nat := (s.get! i).toNat
def isAscii (c : Nat) : Bool := decide ((97 ≤ c ∧ c ≤ 122) ∨ (65 ≤ c ∧ c ≤ 90) ∨ c = 95)
def isFar (r : Nat) : Bool := decide ((192 ≤ r ∧ r ≤ 591 ∧ r ≠ 215 ∧ r ≠ 247) ∨ (913 ≤ r ∧ r ≤ 969) ∨ (1040 ≤ r ∧ r ≤ 1103))
def isDigit (c : Nat) : Bool := decide (48 ≤ c ∧ c ≤ 57)
/-- how many bytes a letter at a place has; 0: none -/
def letN (s : ByteArray) (i : Nat) : Nat :=
  if isAscii (at' s i) = true then 1
  else if 194 ≤ at' s i ∧ at' s i ≤ 223 ∧ i + 1 < s.size ∧ 128 ≤ at' s (i + 1) ∧ at' s (i + 1) ≤ 191 then
    if isFar ((at' s i - 192) * 64 + (at' s (i + 1) - 128)) = true then 2 else 0
  else 0
/-- how many bytes of a name stand at a place -/
def stepN (s : ByteArray) (i : Nat) : Nat :=
  if letN s i = 0 then (if 0 < i ∧ isDigit (at' s i) = true then 1 else 0) else letN s i
def endOf (s : ByteArray) : Nat → Nat → Nat
  | 0, i => i
  | f + 1, i => if i < s.size ∧ stepN s i ≠ 0 then endOf s f (i + stepN s i) else i
def nameB (s : ByteArray) : Bool := decide (0 < s.size ∧ s.size ≤ 40 ∧ endOf s s.size 0 = s.size)

/-- a rune that may stand in a name -/
def runeB (r : Nat) : Bool := isAscii r || isFar r
def fitsB (i r : Nat) : Bool := runeB r || (decide (0 < i) && isDigit r)

theorem at_lt (s : ByteArray) (i : Nat) : at' s i < 256 := by unfold at'; exact UInt8.toNat_lt _
theorem get_eq (s : ByteArray) (i : Nat) (h : i < s.size) : at' s i = (s[i]'h).toNat := by
  have := get_at s i h
  simp only [Nat.add_zero] at this
  unfold at'; rw [this]

theorem letN_le (s : ByteArray) (i : Nat) (h : i < s.size) : i + letN s i ≤ s.size := by
  unfold letN
  split
  · omega
  · split
    · split <;> omega
    · omega
theorem stepN_le (s : ByteArray) (i : Nat) (h : i < s.size) : i + stepN s i ≤ s.size := by
  have := letN_le s i h
  unfold stepN
  split
  · split <;> omega
  · omega

theorem fits_big (i r : Nat) (h : 1104 ≤ r) : fitsB i r = false := by
  have h1 : isAscii r = false := decide_eq_false (by omega)
  have h2 : isFar r = false := decide_eq_false (by omega)
  have h3 : isDigit r = false := decide_eq_false (by omega)
  simp [fitsB, runeB, h1, h2, h3]
theorem step_none (s : ByteArray) (i : Nat) (h : 128 ≤ at' s i)
    (hn : ¬ (194 ≤ at' s i ∧ at' s i ≤ 223 ∧ i + 1 < s.size ∧ 128 ≤ at' s (i + 1) ∧ at' s (i + 1) ≤ 191)) : stepN s i = 0 := by
  have h1 : isAscii (at' s i) = false := decide_eq_false (by omega)
  have h3 : isDigit (at' s i) = false := decide_eq_false (by omega)
  simp [stepN, letN, h1, h3, hn]
def SameD (s : ByteArray) (i : Nat) (p : Nat × Nat) : Prop := (fitsB i p.1 = true → stepN s i = p.2) ∧ (fitsB i p.1 = false → stepN s i = 0)
theorem same_none (s : ByteArray) (i : Nat) (p : Nat × Nat) (hp : 1104 ≤ p.1) (h : stepN s i = 0) : SameD s i p :=
  ⟨fun e => absurd ((fits_big i p.1 hp).symm.trans e) (by decide), fun _ => h⟩
theorem same_ite (s : ByteArray) (i : Nat) (c : Prop) [Decidable c] (p q : Nat × Nat) (h1 : c → SameD s i p) (h2 : ¬ c → SameD s i q) : SameD s i (if c then p else q) := by
  by_cases h : c
  · rw [if_pos h]; exact h1 h
  · rw [if_neg h]; exact h2 h

/-- the rune at a place fits just if a name's bytes stand there, and then it is as wide -/
theorem fits_step (s : ByteArray) (i : Nat) : SameD s i (Utf8.decode s i) := by
  have b0 := at_lt s i
  have b1 := at_lt s (i + 1)
  have e0 : (s.get! (i + 0)).toNat = at' s i := rfl
  have e1 : (s.get! (i + 1)).toNat = at' s (i + 1) := rfl
  have hn := step_none s i
  simp only [Utf8.decode, e0, e1]
  refine same_ite s i _ _ _ (fun h => ?_) (fun h => ?_)
  · have h2 : isFar (at' s i) = false := decide_eq_false (by omega)
    have h4 : ¬ (194 ≤ at' s i ∧ at' s i ≤ 223 ∧ i + 1 < s.size ∧ 128 ≤ at' s (i + 1) ∧ at' s (i + 1) ≤ 191) := by omega
    unfold SameD fitsB runeB stepN letN
    rw [h2, if_neg h4]
    cases isAscii (at' s i) <;> cases isDigit (at' s i) <;> simp
    omega
  refine same_ite s i _ _ _ (fun h1 => ?_) (fun h1 => ?_)
  · simp at h1
    refine same_ite s i _ _ _ (fun h2 => ?_) (fun h2 => ?_)
    · have h3 : isDigit (at' s i) = false := decide_eq_false (by omega)
      have h5 : isAscii (at' s i) = false := decide_eq_false (by omega)
      have h4 : 194 ≤ at' s i ∧ at' s i ≤ 223 ∧ i + 1 < s.size ∧ 128 ≤ at' s (i + 1) ∧ at' s (i + 1) ≤ 191 := by omega
      have e : at' s i % 32 * 64 + at' s (i + 1) % 64 = (at' s i - 192) * 64 + (at' s (i + 1) - 128) := by omega
      unfold SameD fitsB runeB stepN letN
      rw [if_pos h4, h5, h3]
      show (_ → _ = 2) ∧ _
      rw [e]
      have h6 : isAscii ((at' s i - 192) * 64 + (at' s (i + 1) - 128)) = false := decide_eq_false (by omega)
      have h7 : isDigit ((at' s i - 192) * 64 + (at' s (i + 1) - 128)) = false := decide_eq_false (by omega)
      rw [h6, h7]
      cases isFar ((at' s i - 192) * 64 + (at' s (i + 1) - 128)) <;> simp
    · exact same_none s i _ (by simp [Utf8.runeError]) (hn (by omega) (by omega))
  have hz : stepN s i = 0 := by
    refine hn (by omega) ?_
    simp at h1
    omega
  refine same_ite s i _ _ _ (fun h2 => ?_) (fun h2 => ?_)
  · refine same_ite s i _ _ _ (fun h3 => ?_) (fun h3 => ?_)
    · refine same_none s i _ ?_ hz
      simp at h3 ⊢
      omega
    · exact same_none s i _ (by simp [Utf8.runeError]) hz
  refine same_ite s i _ _ _ (fun h3 => ?_) (fun h3 => ?_)
  · refine same_ite s i _ _ _ (fun h4 => ?_) (fun h4 => ?_)
    · refine same_none s i _ ?_ hz
      simp at h4 ⊢
      omega
    · exact same_none s i _ (by simp [Utf8.runeError]) hz
  exact same_none s i _ (by simp [Utf8.runeError]) hz

theorem endOf_ge (s : ByteArray) (f i : Nat) (h : ¬ i < s.size) : endOf s f i = i := by
  cases f with
  | zero => rfl
  | succ f => simp [endOf, h]
theorem endOf_stop (s : ByteArray) (f i : Nat) (h : stepN s i = 0) : endOf s f i = i := by
  cases f with
  | zero => rfl
  | succ f => simp [endOf, h]
/-- with fuel enough one step more changes nothing -/
theorem endOf_step (s : ByteArray) (f i : Nat) (h : i < s.size) (hf : s.size ≤ i + f) (hs : stepN s i ≠ 0) :
    endOf s f i = endOf s (f - 1) (i + stepN s i) ∧ s.size ≤ i + stepN s i + (f - 1) := by
  cases f with
  | zero => omega
  | succ f => exact ⟨by simp [endOf, h, hs], by omega⟩
end Go.Proofs.Ytkkmikgeppkhiaa
