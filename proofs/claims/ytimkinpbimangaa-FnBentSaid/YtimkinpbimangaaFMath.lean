/-
  Fractions in plain numbers: the greatest common divisor by remainders, and what is reduced.
-/
import Derived.ProofKit
import Derived.IntWalk
namespace Go.Proofs.Ytimkinpbimangaa

/-- one step of the common divisor, with Go's remainder -/
theorem gcd_step (a b : Int) : Nat.gcd b.natAbs (a.tmod b).natAbs = Nat.gcd a.natAbs b.natAbs := by
  rw [Int.natAbs_tmod, Nat.gcd_comm, ← Nat.gcd_rec, Nat.gcd_comm]
theorem tmod_lt (a b : Int) (h : b ≠ 0) : (a.tmod b).natAbs < b.natAbs := by
  rw [Int.natAbs_tmod]; exact Nat.mod_lt _ (by omega)
theorem tmod_le (a b : Int) : (a.tmod b).natAbs ≤ a.natAbs := by
  rw [Int.natAbs_tmod]; exact Nat.mod_le _ _
theorem tmod_neg (a b : Int) (h : a ≤ 0) : a.tmod b ≤ 0 := by
  have : -a.tmod b = (-a).tmod b := by rw [Int.neg_tmod]
  have h2 := Int.tmod_nonneg b (a := -a) (by omega)
  omega
theorem tmod_bd (a b : Int) (ha : -9223372036854775808 ≤ a ∧ a ≤ 9223372036854775807) :
    -9223372036854775808 ≤ a.tmod b ∧ a.tmod b ≤ 9223372036854775807 := by
  have h1 := tmod_le a b
  by_cases h0 : 0 ≤ a
  · have := Int.tmod_nonneg b h0; omega
  · have := tmod_neg a b (by omega); omega

/-- n / d, reduced: the parts and the code -/
def frTop (n d : Int) : Nat := n.natAbs / Nat.gcd n.natAbs d.natAbs
def frBot (n d : Int) : Nat := d.natAbs / Nat.gcd n.natAbs d.natAbs
def frFits (n d : Int) : Bool := decide (frTop n d ≤ 1000000000 ∧ frBot n d ≤ 1000000000)
def frCode (n d : Int) : Int := if d = 0 then 11 else if frFits n d = true then 0 else 12
def frN (n d : Int) : Int := if d = 0 then 0 else if frFits n d = true then (if (n < 0) ↔ (d < 0) then (frTop n d : Int) else -(frTop n d : Int)) else 0
def frD (n d : Int) : Int := if d = 0 then 0 else if frFits n d = true then (frBot n d : Int) else 0
/-- it is right -/
def frOk (n d : Int) : Bool := decide (1 ≤ d ∧ d ≤ 1000000000 ∧ -1000000000 ≤ n ∧ n ≤ 1000000000 ∧ Nat.gcd n.natAbs d.natAbs = 1)

theorem gcd_pos (n d : Int) (h : d ≠ 0) : 0 < Nat.gcd n.natAbs d.natAbs := Nat.gcd_pos_of_pos_right _ (by omega)
theorem top_le (n d : Int) : frTop n d ≤ n.natAbs := Nat.div_le_self _ _
theorem bot_le (n d : Int) : frBot n d ≤ d.natAbs := Nat.div_le_self _ _

/-- it is right just if making it anew changes nothing -/
theorem ok_iff (n d : Int) : frOk n d = true ↔ frCode n d = 0 ∧ frN n d = n ∧ frD n d = d := by
  unfold frOk frCode frN frD
  rw [decide_eq_true_iff]
  by_cases hd : d = 0
  · subst hd; simp
  rw [if_neg hd, if_neg hd, if_neg hd]
  have hg := gcd_pos n d hd
  constructor
  · rintro ⟨h1, h2, h3, h4, h5⟩
    have ht : frTop n d = n.natAbs := by unfold frTop; rw [h5, Nat.div_one]
    have hb : frBot n d = d.natAbs := by unfold frBot; rw [h5, Nat.div_one]
    have hf : frFits n d = true := by unfold frFits; rw [decide_eq_true_iff, ht, hb]; omega
    rw [if_pos hf, if_pos hf, if_pos hf, ht, hb]
    refine ⟨rfl, ?_, by omega⟩
    by_cases hn : n < 0
    · rw [if_neg (by omega)]; omega
    · rw [if_pos (by omega)]; omega
  · rintro ⟨h1, h2, h3⟩
    by_cases hf : frFits n d = true
    · rw [if_pos hf] at h2 h3
      unfold frFits at hf
      rw [decide_eq_true_iff] at hf
      have hdd : d.natAbs = frBot n d := by omega
      have h5 : Nat.gcd n.natAbs d.natAbs = 1 := by
        have hdv : Nat.gcd n.natAbs d.natAbs * frBot n d = d.natAbs := Nat.mul_div_cancel' (Nat.gcd_dvd_right _ _)
        rw [← hdd] at hdv
        have hp : 0 < d.natAbs := by omega
        have : Nat.gcd n.natAbs d.natAbs * d.natAbs = 1 * d.natAbs := by omega
        exact Nat.eq_of_mul_eq_mul_right hp this
      have ht : frTop n d = n.natAbs := by unfold frTop; rw [h5, Nat.div_one]
      refine ⟨by omega, by omega, by omega, by omega, h5⟩
    · rw [if_neg hf] at h1
      omega
theorem wf_N (n d : Int) : -1000000000 ≤ frN n d ∧ frN n d ≤ 1000000000 := by
  unfold frN
  split
  · omega
  split
  · rename_i h; unfold frFits at h; rw [decide_eq_true_iff] at h; split <;> omega
  · omega
theorem wf_D (n d : Int) : 0 ≤ frD n d ∧ frD n d ≤ 1000000000 := by
  unfold frD
  split
  · omega
  split
  · rename_i h; unfold frFits at h; rw [decide_eq_true_iff] at h; omega
  · omega
end Go.Proofs.Ytimkinpbimangaa
