/-
  The places of a straight way.
-/
import Derived.Test.YtjhldjojkaphkaaMlRun
namespace Go.Proofs.Ytjhldjojkaphkaa
set_option linter.unusedVariables false
set_option linter.unusedSimpArgs false

/-- a sign -/
def sg (x : Int) : Int := if 0 < x then 1 else if x < 0 then -1 else 0
/-- the coordinate behind i steps -/
def nth (f t : Int) (i : Nat) : Int := if f < t then f + i else if t < f then f - i else f
theorem nth_sg (f t : Int) (i : Nat) : nth f t i = f + sg (t - f) * (i : Int) := by
  unfold nth sg
  rcases Int.lt_trichotomy f t with h | h | h
  · rw [if_pos h, if_pos (show 0 < t - f by omega)]; omega
  · subst h; simp
  · rw [if_neg (show ¬ f < t by omega), if_pos h, if_neg (show ¬ 0 < t - f by omega), if_pos (show t - f < 0 by omega)]; omega
theorem nth_succ (f t : Int) (i : Nat) : nth f t (i + 1) = nth f t i + sg (t - f) := by
  rw [nth_sg, nth_sg, Int.natCast_add, Int.mul_add]
  simp
  omega
/-- how many steps there are -/
def stN (fx fy fz tx ty tz : Int) : Nat := (tx - fx).natAbs + (ty - fy).natAbs + (tz - fz).natAbs
/-- at most one coordinate is another -/
def str (fx fy fz tx ty tz : Int) : Prop := (fx = tx ∧ fy = ty) ∨ (fx = tx ∧ fz = tz) ∨ (fy = ty ∧ fz = tz)
theorem nth_zero (f t : Int) : nth f t 0 = f := by unfold nth; split <;> (try split) <;> simp
theorem str_end {fx fy fz tx ty tz : Int} (h : str fx fy fz tx ty tz) : nth fx tx (stN fx fy fz tx ty tz) = tx ∧ nth fy ty (stN fx fy fz tx ty tz) = ty ∧ nth fz tz (stN fx fy fz tx ty tz) = tz := by
  unfold nth stN
  rcases h with ⟨rfl, rfl⟩ | ⟨rfl, rfl⟩ | ⟨rfl, rfl⟩ <;> refine ⟨?_, ?_, ?_⟩ <;> (split <;> (try split)) <;> omega
theorem str_not {fx fy fz tx ty tz : Int} (h : str fx fy fz tx ty tz) {i : Nat} (hi : i < stN fx fy fz tx ty tz) : ¬ (nth fx tx i = tx ∧ nth fy ty i = ty ∧ nth fz tz i = tz) := by
  unfold nth
  unfold stN at hi
  rintro ⟨h1, h2, h3⟩
  rcases h with ⟨rfl, rfl⟩ | ⟨rfl, rfl⟩ | ⟨rfl, rfl⟩ <;> (simp at h1 h2 h3 hi) <;> (repeat' split at h1) <;> (repeat' split at h2) <;> (repeat' split at h3) <;> omega
theorem nth_in {f t lo hi : Int} {i : Nat} (hf : lo ≤ f ∧ f ≤ hi) (ht : lo ≤ t ∧ t ≤ hi) (h : i ≤ (t - f).natAbs) : lo ≤ nth f t i ∧ nth f t i ≤ hi := by
  unfold nth
  split <;> (try split) <;> omega
theorem nth_still {f : Int} (i : Nat) : nth f f i = f := by unfold nth; simp
theorem nth_lo {fx fy fz tx ty tz : Int} (h : str fx fy fz tx ty tz) {i : Nat} (hi : i ≤ max (stN fx fy fz tx ty tz) 1) (h0 : 1 ≤ i) {lo hi' : Int} : (lo ≤ fx ∧ fx ≤ hi' → lo ≤ tx ∧ tx ≤ hi' → lo ≤ nth fx tx i ∧ nth fx tx i ≤ hi') ∧ (lo ≤ fy ∧ fy ≤ hi' → lo ≤ ty ∧ ty ≤ hi' → lo ≤ nth fy ty i ∧ nth fy ty i ≤ hi') ∧ (lo ≤ fz ∧ fz ≤ hi' → lo ≤ tz ∧ tz ≤ hi' → lo ≤ nth fz tz i ∧ nth fz tz i ≤ hi') := by
  unfold nth
  unfold stN at hi
  refine ⟨fun a b => ?_, fun a b => ?_, fun a b => ?_⟩ <;> (rcases h with ⟨rfl, rfl⟩ | ⟨rfl, rfl⟩ | ⟨rfl, rfl⟩) <;> (split <;> (try split)) <;> omega
/-- the places of a way, as numbers one behind another -/
def wayF (fx fy fz tx ty tz : Int) : Nat → List Int
  | 0 => []
  | k + 1 => wayF fx fy fz tx ty tz k ++ [nth fx tx (k + 1), nth fy ty (k + 1), nth fz tz (k + 1)]
theorem wayF_len (fx fy fz tx ty tz : Int) (k : Nat) : (wayF fx fy fz tx ty tz k).length = k * 3 := by
  induction k with
  | zero => rfl
  | succ k ih => simp [wayF, ih]; omega
theorem wayF_at (fx fy fz tx ty tz : Int) {k i : Nat} (h : i < k) : (wayF fx fy fz tx ty tz k)[i * 3]? = some (nth fx tx (i + 1)) ∧ (wayF fx fy fz tx ty tz k)[i * 3 + 1]? = some (nth fy ty (i + 1)) ∧ (wayF fx fy fz tx ty tz k)[i * 3 + 2]? = some (nth fz tz (i + 1)) := by
  induction k with
  | zero => omega
  | succ k ih =>
    have hl := wayF_len fx fy fz tx ty tz k
    by_cases e : i = k
    · subst e
      refine ⟨?_, ?_, ?_⟩
      · rw [wayF, List.getElem?_append_right (by omega), hl, Nat.sub_self]; rfl
      · rw [wayF, List.getElem?_append_right (by omega), hl, show i * 3 + 1 - i * 3 = 1 by omega]; rfl
      · rw [wayF, List.getElem?_append_right (by omega), hl, show i * 3 + 2 - i * 3 = 2 by omega]; rfl
    · obtain ⟨h1, h2, h3⟩ := ih (by omega)
      refine ⟨?_, ?_, ?_⟩
      · rw [wayF, List.getElem?_append_left (by omega)]; exact h1
      · rw [wayF, List.getElem?_append_left (by omega)]; exact h2
      · rw [wayF, List.getElem?_append_left (by omega)]; exact h3
/-- how many coordinates are others -/
def chg (fx fy fz tx ty tz : Int) : Int := (if fx = tx then 0 else 1) + (if fy = ty then 0 else 1) + (if fz = tz then 0 else 1)
theorem chg_str {fx fy fz tx ty tz : Int} : chg fx fy fz tx ty tz ≤ 1 ↔ str fx fy fz tx ty tz := by
  unfold chg str
  by_cases h1 : fx = tx <;> by_cases h2 : fy = ty <;> by_cases h3 : fz = tz <;> simp [h1, h2, h3]
def inR (W H tx ty tz : Int) : Prop := (0 ≤ tx ∧ tx ≤ W - 1) ∧ (0 ≤ ty ∧ ty ≤ H - 1) ∧ (0 ≤ tz ∧ tz ≤ 24)
instance (W H tx ty tz : Int) : Decidable (inR W H tx ty tz) := by unfold inR; infer_instance
/-- the code of a way -/
def wyC (W H fx fy fz tx ty tz : Int) : Int := if ¬ inR W H tx ty tz then 5 else if 1 < chg fx fy fz tx ty tz then 13 else 0
/-- the milling behind the first k places of a way: its code, and what is left -/
def walkC (P : List Int) (W H r : Nat) (fast : Bool) (fx fy fz tx ty tz : Int) (s : Ml) : Nat → Int × Ml
  | 0 => (0, s)
  | k + 1 => if (walkC P W H r fast fx fy fz tx ty tz s k).1 ≠ 0 then walkC P W H r fast fx fy fz tx ty tz s k
    else placeC P (cols W H r (nth fx tx (k + 1)).toNat (nth fy ty (k + 1)).toNat) (nth fz tz (k + 1)) fast (walkC P W H r fast fx fy fz tx ty tz s k).2
end Go.Proofs.Ytjhldjojkaphkaa
