/-
  Floating numbers as the model has them: bits, or none where it is not a number; what each operation gives.
-/
import Derived.Test.YtgocgcnpgmamiaaGen
import Derived.Test.YtgocgcnpgmamiaaInv2
import Derived.WalkLawsBesides
namespace Go.Proofs.Ytgocgcnpgmamiaa
open Go.ChangeShapes Go.WideShapes Go.ChangeAt Go.RowKit
set_option linter.unusedVariables false
set_option linter.unusedSimpArgs false

/-- a number's bits; none if it is not a number -/
def Fv (k : FloatKind) (b : Nat) : Option Nat := if (k.format.read b).isNaN then none else some b
/-- an operation; what is not a number stays so -/
def fop (op : BinOp) (k : FloatKind) : Option Nat → Option Nat → Option Nat
  | some a, some b => floatBits op k a b
  | _, _ => none
/-- how two stand to each other -/
def ford (k : FloatKind) : Option Nat → Option Nat → Option Ordering
  | some a, some b => k.format.order a b
  | _, _ => none

theorem read_word (f : Ieee.Format) (neg : Bool) (rung : Nat) (h : rung ≤ f.infRung) : (f.read (f.word neg rung)).isNaN = false := by
  have hs := f.infRung_lt
  have e : f.word neg rung % f.signWeight = rung := by
    unfold Ieee.Format.word
    split
    · rw [Nat.add_mod_left, Nat.mod_eq_of_lt (by omega)]
    · rw [Nat.mod_eq_of_lt (by omega)]
  unfold Ieee.Format.read
  simp only [e]
  split
  · rfl
  · split
    · rfl
    · split
      · rfl
      · omega
theorem read_write (f : Ieee.Format) (d : Ieee.Datum) (h : d.isNaN = false) : (f.read (f.write d)).isNaN = false := by
  cases d with
  | number neg mag place =>
    simp only [Ieee.Format.write, Ieee.Format.nearest]
    split
    · exact read_word f neg 0 (Nat.zero_le _)
    · exact read_word f neg _ (Nat.min_le_right _ _)
  | infinity neg => exact read_word f neg _ (Nat.le_refl _)
  | nan neg fr => simp [Ieee.Datum.isNaN] at h
theorem sum_num {a b d : Ieee.Datum} (h : a.sum b = some d) : a.isNaN = false ∧ b.isNaN = false ∧ d.isNaN = false := by
  cases a <;> cases b <;> simp [Ieee.Datum.sum] at h
  · subst h; exact ⟨rfl, rfl, rfl⟩
  · subst h; exact ⟨rfl, rfl, rfl⟩
  · subst h; exact ⟨rfl, rfl, rfl⟩
  · obtain ⟨_, h⟩ := h; subst h; exact ⟨rfl, rfl, rfl⟩
theorem product_num {a b d : Ieee.Datum} (h : a.product b = some d) : a.isNaN = false ∧ b.isNaN = false ∧ d.isNaN = false := by
  cases a <;> cases b <;> simp [Ieee.Datum.product] at h
  · subst h; exact ⟨rfl, rfl, rfl⟩
  · obtain ⟨_, h⟩ := h; subst h; exact ⟨rfl, rfl, rfl⟩
  · obtain ⟨_, h⟩ := h; subst h; exact ⟨rfl, rfl, rfl⟩
  · subst h; exact ⟨rfl, rfl, rfl⟩
theorem quotient_num {n : Nat} {a b d : Ieee.Datum} (h : a.quotient n b = some d) : a.isNaN = false ∧ b.isNaN = false ∧ d.isNaN = false := by
  cases a <;> cases b <;> simp only [Ieee.Datum.quotient] at h
  · split at h
    · split at h
      · cases h
      · cases h; exact ⟨rfl, rfl, rfl⟩
    · cases h; exact ⟨rfl, rfl, rfl⟩
  · cases h; exact ⟨rfl, rfl, rfl⟩
  · cases h
  · cases h; exact ⟨rfl, rfl, rfl⟩
  · cases h
  · cases h
  · cases h
  · cases h
  · cases h
theorem opp_num (d : Ieee.Datum) : d.opposite.isNaN = d.isNaN := by cases d <;> rfl
theorem fv_some {k : FloatKind} {b : Nat} (h : (k.format.read b).isNaN = false) : Fv k b = some b := by unfold Fv; rw [h]; rfl
theorem map_some' {α β : Type} {o : Option α} {f : α → β} {r : β} (h : o.map f = some r) : ∃ a, o = some a ∧ f a = r := by
  cases o with
  | none => cases h
  | some a => exact ⟨a, rfl, by simpa using h⟩
/-- a result that is there is a number, and so were both that it was made of -/
theorem bits_num {op : BinOp} {k : FloatKind} {a b r : Nat} (h : floatBits op k a b = some r) : Fv k a = some a ∧ Fv k b = some b ∧ Fv k r = some r := by
  unfold floatBits at h
  split at h
  · obtain ⟨d, hd, rfl⟩ := map_some' h
    obtain ⟨h1, h2, h3⟩ := sum_num hd
    exact ⟨fv_some h1, fv_some h2, fv_some (read_write _ _ h3)⟩
  · obtain ⟨d, hd, rfl⟩ := map_some' h
    obtain ⟨h1, h2, h3⟩ := sum_num hd
    rw [opp_num] at h2
    exact ⟨fv_some h1, fv_some h2, fv_some (read_write _ _ h3)⟩
  · obtain ⟨d, hd, rfl⟩ := map_some' h
    obtain ⟨h1, h2, h3⟩ := product_num hd
    exact ⟨fv_some h1, fv_some h2, fv_some (read_write _ _ h3)⟩
  · obtain ⟨d, hd, rfl⟩ := map_some' h
    obtain ⟨h1, h2, h3⟩ := quotient_num hd
    exact ⟨fv_some h1, fv_some h2, fv_some (read_write _ _ h3)⟩
  · cases h
theorem fv_cases (k : FloatKind) (b : Nat) : Fv k b = some b ∨ Fv k b = none := by
  unfold Fv
  split
  · exact .inr rfl
  · exact .inl rfl
theorem bits_fop (op : BinOp) (k : FloatKind) (a b : Nat) : floatBits op k a b = fop op k (Fv k a) (Fv k b) := by
  rcases fv_cases k a with ha | ha <;> rcases fv_cases k b with hb | hb <;> rw [ha, hb] <;> simp only [fop]
  all_goals
    cases h : floatBits op k a b with
    | none => rfl
    | some r =>
      obtain ⟨h1, h2, _⟩ := bits_num h
      first
      | (exfalso; rw [ha] at h1; cases h1; done)
      | (exfalso; rw [hb] at h2; cases h2; done)
theorem order_nan {a b : Ieee.Datum} (h : a.isNaN = true ∨ b.isNaN = true) : a.order b = none := by
  rcases h with h | h <;> cases a <;> cases b <;> simp_all [Ieee.Datum.isNaN, Ieee.Datum.order]
theorem order_fv (k : FloatKind) (a b : Nat) : k.format.order a b = ford k (Fv k a) (Fv k b) := by
  unfold Fv
  cases ha : (k.format.read a).isNaN <;> cases hb : (k.format.read b).isNaN <;> simp only [ford, if_true, if_false, Bool.false_eq_true]
  · exact order_nan (.inr hb)
  · exact order_nan (.inl ha)
  · exact order_nan (.inl ha)
theorem read_nan (f : Ieee.Format) (x r : Nat) (e : x % f.signWeight = r) (h : f.infRung < r) (hb : f.binade ≤ f.infRung) : (f.read x).isNaN = true := by
  unfold Ieee.Format.read
  simp only [e]
  rw [if_neg (by omega), if_neg (by omega), if_neg (by omega)]
  rfl
theorem f32_sw : FloatKind.f32.format.signWeight = 2147483648 := rfl
theorem f32_inf : FloatKind.f32.format.infRung = 2139095040 := rfl
theorem f32_bin : FloatKind.f32.format.binade = 8388608 := rfl
theorem f64_sw : FloatKind.f64.format.signWeight = 9223372036854775808 := rfl
theorem f64_inf : FloatKind.f64.format.infRung = 9218868437227405312 := rfl
theorem f64_bin : FloatKind.f64.format.binade = 4503599627370496 := rfl
theorem nan32 (t : Nat) : Fv .f32 ((t % 2) * 2 ^ 31 + 0x7f800000 + 1 + (t / 2) % (2 ^ 23 - 1)) = none := by
  unfold Fv
  rw [if_pos (read_nan _ _ (0x7f800000 + 1 + (t / 2) % (2 ^ 23 - 1)) (by rw [f32_sw]; omega) (by rw [f32_inf]; omega) (by rw [f32_inf, f32_bin]; omega))]
theorem nan64 (t : Nat) : Fv .f64 ((t % 2) * 2 ^ 63 + 0x7ff0000000000000 + 1 + (t / 2) % (2 ^ 52 - 1)) = none := by
  unfold Fv
  rw [if_pos (read_nan _ _ (0x7ff0000000000000 + 1 + (t / 2) % (2 ^ 52 - 1)) (by rw [f64_sw]; omega) (by rw [f64_inf]; omega) (by rw [f64_inf, f64_bin]; omega))]
theorem nan_bits (k : FloatKind) (x y t : Nat) : Fv k (Question.cut (.nanBits k x y) t) = none := by
  cases k
  · exact nan32 t
  · exact nan64 t
theorem nan_conv (k : FloatKind) (x t : Nat) : Fv k (Question.cut (.nanConv k x) t) = none := by
  cases k
  · exact nan32 t
  · exact nan64 t
/-- what an operation leaves: bits that stand for what it gives, and perhaps a draw more -/
theorem arith_run {P : Program} (op : BinOp) (hop : op = .add ∨ op = .sub ∨ op = .mul ∨ op = .quo) (k : FloatKind) (x y : Nat) (w : World) :
    ∃ r n, (Op.floatArith op k x y).run P w = .ok (.float k r) (w.drewN n) ∧ Fv k r = fop op k (Fv k x) (Fv k y) := by
  rw [← bits_fop]
  cases h : floatBits op k x y with
  | some r => exact ⟨r, 0, run_floatArith w h, (bits_num h).2.2⟩
  | none =>
    refine ⟨Question.cut (.nanBits k x y) (w.tape w.drawn (.nanBits k x y)), 1, ?_, nan_bits _ _ _ _⟩
    rcases hop with rfl | rfl | rfl | rfl <;> simp only [floatBits] at h <;> simp [Op.floatArith, h, Question.forced] <;> rfl
theorem flt_run {P : Program} (op : BinOp) (hop : op = .add ∨ op = .sub ∨ op = .mul ∨ op = .quo) (t : TypeId) (k : FloatKind) (x y : Nat) (w : World) :
    ∃ r n, (binOp op t (.float k x) (.float k y)).run P w = .ok (.float k r) (w.drewN n) ∧ Fv k r = fop op k (Fv k x) (Fv k y) := by
  obtain ⟨r, n, h, hr⟩ := arith_run (P := P) op hop k x y w
  exact ⟨r, n, by rcases hop with rfl | rfl | rfl | rfl <;> simpa [binOp] using h, hr⟩
theorem cadd_run {P : Program} (t : TypeId) (k : FloatKind) (a b c d : Nat) (w : World) :
    ∃ re im n, (binOp .add t (.complex k a b) (.complex k c d)).run P w = .ok (.complex k re im) (w.drewN n) ∧ Fv k re = fop .add k (Fv k a) (Fv k c) ∧ Fv k im = fop .add k (Fv k b) (Fv k d) := by
  obtain ⟨r, n, h, hr⟩ := arith_run (P := P) .add (.inl rfl) k a c w
  obtain ⟨s, m, h2, hs⟩ := arith_run (P := P) .add (.inl rfl) k b d (w.drewN n)
  refine ⟨r, s, n + m, ?_, hr, hs⟩
  simp [binOp, Op.complexOp, Op.Complex.arith, h, h2]
end Go.Proofs.Ytgocgcnpgmamiaa
