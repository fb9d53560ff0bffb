/-
  Numbers that have an end: what lies between two of them is one, and a product of two is there.
-/
import Derived.Test.YtgocgcnpgmamiaaFlOk
namespace Go.Proofs.Ytgocgcnpgmamiaa
open Go.ChangeShapes Go.WideShapes Go.ChangeAt Go.RowKit
set_option linter.unusedVariables false
set_option linter.unusedSimpArgs false

/-- neither without end nor no number -/
def isNum (k : FloatKind) (x : Nat) : Prop := ∃ s m e, k.format.read x = .number s m e
theorem isNum.fv {k : FloatKind} {x : Nat} (h : isNum k x) : Fv k x = some x := by
  obtain ⟨s, m, e, h⟩ := h
  exact fv_some (by rw [h]; rfl)
theorem num_of_between {k : FloatKind} {x lo hi : Nat} (hlo : isNum k lo) (hhi : isNum k hi) (h : fin k (Fv k x) (Fv k lo) (Fv k hi) = true) : isNum k x := by
  unfold fin at h
  rw [← order_fv, ← order_fv] at h
  obtain ⟨s, m, e, h1⟩ := hlo
  obtain ⟨s', m', e', h2⟩ := hhi
  simp only [Ieee.Format.order, h1, h2] at h
  unfold isNum
  cases hx : k.format.read x with
  | number a b c => exact ⟨a, b, c, rfl⟩
  | nan a b => rw [hx] at h; simp [Ieee.Datum.order] at h
  | infinity a => rw [hx] at h; cases a <;> simp [Ieee.Datum.order] at h
theorem mul_num {k : FloatKind} {x y : Nat} (hx : isNum k x) (hy : isNum k y) : ∃ r, floatBits .mul k x y = some r := by
  obtain ⟨s, m, e, h1⟩ := hx
  obtain ⟨s', m', e', h2⟩ := hy
  simp only [floatBits, Ieee.Format.mul, h1, h2, Ieee.Datum.product, Option.map_some]
  exact ⟨_, rfl⟩
theorem add_num {k : FloatKind} {x y : Nat} (hx : isNum k x) (hy : isNum k y) : ∃ r, floatBits .add k x y = some r := by
  obtain ⟨s, m, e, h1⟩ := hx
  obtain ⟨s', m', e', h2⟩ := hy
  simp only [floatBits, Ieee.Format.add, h1, h2, Ieee.Datum.sum, Option.map_some]
  exact ⟨_, rfl⟩
theorem sub_num {k : FloatKind} {x y : Nat} (hx : isNum k x) (hy : isNum k y) : ∃ r, floatBits .sub k x y = some r := by
  obtain ⟨s, m, e, h1⟩ := hx
  obtain ⟨s', m', e', h2⟩ := hy
  simp only [floatBits, Ieee.Format.sub, h1, h2, Ieee.Datum.opposite, Ieee.Datum.sum, Option.map_some]
  exact ⟨_, rfl⟩
/-- an operation that is there leaves the world as it was -/
theorem quiet_flt {P : Program} {op : BinOp} {k : FloatKind} {x y r : Nat} (h : floatBits op k x y = some r) (t : TypeId) : (∀ W : World, (binOp op t (.float k x) (.float k y)).run P W = .ok (.float k r) W) ∧ Fv k r = fop op k (Fv k x) (Fv k y) :=
  ⟨fun W => run_float_arith W op t k x y r h, by rw [← bits_fop, h]; exact (bits_num h).2.2⟩
theorem num_of {k : FloatKind} (x : Nat) (s : Bool) (m : Nat) (e : Int) (h : k.format.read x = .number s m e) : isNum k x := ⟨s, m, e, h⟩
theorem num_m : isNum .f64 4696837146684686336 := ⟨_, _, _, rfl⟩
theorem num_nm : isNum .f64 13920209183539462144 := ⟨_, _, _, rfl⟩
theorem num_0 : isNum .f64 0 := ⟨_, _, _, rfl⟩
theorem num_1 : isNum .f64 4607182418800017408 := ⟨_, _, _, rfl⟩
theorem num_n1 : isNum .f64 13830554455654793216 := ⟨_, _, _, rfl⟩
theorem num_h : isNum .f64 4604544271217802189 := ⟨_, _, _, rfl⟩
theorem num_nh : isNum .f64 13827916308072577997 := ⟨_, _, _, rfl⟩
theorem num_k : isNum .f64 4562254508917369340 := ⟨_, _, _, rfl⟩
theorem smp_num {x : Nat} (h : smp x = true) : isNum .f64 x := num_of_between num_nm num_m h
theorem pls_num {x : Nat} (h : pls x = true) : isNum .f64 x := num_of_between num_0 num_m h
theorem mko_num {x : Nat} (h : mko x = true) : isNum .f64 x := num_of_between num_k num_m h
end Go.Proofs.Ytgocgcnpgmamiaa
