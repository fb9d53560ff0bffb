/-
  What the small functions on tones and bounds give, of the model and of the program.
-/
import Derived.Test.YtgocgcnpgmamiaaFlBase
namespace Go.Proofs.Ytgocgcnpgmamiaa
open Go.ChangeShapes Go.WideShapes Go.ChangeAt Go.RowKit
set_option linter.unusedVariables false
set_option linter.unusedSimpArgs false

theorem run_store_flt (P : Program) (w : World) (a : Addr) (m : Mode) (k : FloatKind) (b : Nat) : (store a (.float k b) m).run P w = stored P w a (.float k b) m := run_store P w a _ m rfl
theorem run_store_cpx (P : Program) (w : World) (a : Addr) (m : Mode) (k : FloatKind) (b c : Nat) : (store a (.complex k b c) m).run P w = stored P w a (.complex k b c) m := run_store P w a _ m rfl
attribute [local go_sem] run_store_flt run_store_cpx
/-- the walk's step at an operation on floating numbers -/
theorem upon_flt {P : Program} {o : Oper} {A : Act} {K : Act → World → Prop} {Q : Exit → Act → World → Prop} {op : BinOp} {t : TypeId} {k : FloatKind} {x y : Nat} {w : World} (hop : op = .add ∨ op = .sub ∨ op = .mul ∨ op = .quo)
    (h : ∀ r n, Fv k r = fop op k (Fv k x) (Fv k y) → Oper.upon P o A K Q (.ok (Next.value (.float k r)) (w.drewN n))) :
    Oper.upon P o A K Q (((binOp op t (.float k x) (.float k y)).run P w).andThen fun a w' => Result.ok (Next.value a) w') := by
  obtain ⟨r, n, h1, hr⟩ := flt_run (P := P) op hop t k x y w
  rw [h1]
  exact h r n hr
theorem upon_cadd {P : Program} {o : Oper} {A : Act} {K : Act → World → Prop} {Q : Exit → Act → World → Prop} {t : TypeId} {k : FloatKind} {a b c d : Nat} {w : World}
    (h : ∀ re im n, Fv k re = fop .add k (Fv k a) (Fv k c) → Fv k im = fop .add k (Fv k b) (Fv k d) → Oper.upon P o A K Q (.ok (Next.value (.complex k re im)) (w.drewN n))) :
    Oper.upon P o A K Q (((binOp .add t (.complex k a b) (.complex k c d)).run P w).andThen fun a w' => Result.ok (Next.value a) w') := by
  obtain ⟨r, s, n, h1, hr, hs⟩ := cadd_run (P := P) t k a b c d w
  rw [h1]
  exact h r s n hr hs
theorem bs {B g o : Nat} {w W : World} {v : Value} (h : Below B w W) (hg : B ≤ g) : Below B w (W.setCell ⟨g, o, none⟩ v) := h.setCell (p := ⟨g, o, none⟩) hg _
/-- a tone: two numbers, or none -/
abbrev Tn := Option Nat × Option Nat
def tv (a b : Nat) : Tn := (Fv .f64 a, Fv .f64 b)
def fa (a b : Option Nat) : Option Nat := fop .add .f64 a b
def fs (a b : Option Nat) : Option Nat := fop .sub .f64 a b
def fm (a b : Option Nat) : Option Nat := fop .mul .f64 a b
def fq (a b : Option Nat) : Option Nat := fop .quo .f64 a b
def tadd (a b : Tn) : Tn := (fa a.1 b.1, fa a.2 b.2)
def tmul (a b : Tn) : Tn := (fs (fm a.1 b.1) (fm a.2 b.2), fa (fm a.1 b.2) (fm a.2 b.1))
def tsq (b : Tn) : Option Nat := fa (fm b.1 b.1) (fm b.2 b.2)
def tdiv (a b : Tn) : Tn := (fq (fa (fm a.1 b.1) (fm a.2 b.2)) (tsq b), fq (fs (fm a.2 b.1) (fm a.1 b.2)) (tsq b))
def fz (a : Option Nat) : Bool := ford .f64 a (some 0) == some .eq
def tzero (a : Tn) : Bool := fz a.1 && fz a.2
def tshare (a b : Tn) : Tn := if tzero b then (some 0, some 0) else tdiv a b
/-- between two bounds -/
def fin (k : FloatKind) (x lo hi : Option Nat) : Bool := (ford k x lo == some .gt || ford k x lo == some .eq) && (ford k x hi == some .lt || ford k x hi == some .eq)
theorem fv0 : Fv .f64 0 = some 0 := rfl
theorem fv1 : Fv .f64 4607182418800017408 = some 4607182418800017408 := rfl
theorem order_flip (a b : Ieee.Datum) : b.order a = (a.order b).map Ordering.swap := by
  cases a <;> cases b <;> simp only [Ieee.Datum.order, Option.map_none, Option.map_some]
  · rw [Int.min_comm]
    simp only [Option.some.injEq]
    exact Std.OrientedCmp.eq_swap
  · rename_i n m p s; cases s <;> rfl
  · rename_i s n m p; cases s <;> rfl
  · rename_i s t; cases s <;> cases t <;> rfl
theorem ford_flip (k : FloatKind) (a b : Option Nat) : ford k b a = (ford k a b).map Ordering.swap := by
  cases a <;> cases b <;> simp only [ford, Option.map_none]
  exact order_flip _ _
theorem le_ge (k : FloatKind) (a b : Option Nat) : (ford k b a == some .lt || ford k b a == some .eq) = (ford k a b == some .gt || ford k a b == some .eq) := by
  rw [ford_flip]
  cases ford k a b with
  | none => rfl
  | some o => cases o <;> rfl

theorem sumM (a b c d : Nat) (w : World) :
    Calls Try.prog 46 #[.agg #[.float .f64 a, .float .f64 b], .agg #[.float .f64 c, .float .f64 d]] w fun e w' => (∃ re im, e = .returned (.agg #[.float .f64 re, .float .f64 im]) ∧ tv re im = tadd (tv a b) (tv c d)) ∧ Below w.heap.size w w' := by
  go_enter Try.func46, Try.ntmps46
  go_wp2_with (refine upon_flt (by simp) ?_; intro _ _ _)
  refine bodyPost_ret (by simp [results, Try.results46, go_sem]; exact ⟨rfl, rfl⟩) rfl ⟨⟨_, _, rfl, by simp [tv, tadd, fa, *]⟩, ?_⟩
  repeat (first | exact Below.refl _ _ | refine ba ?_ _ | refine bel_dn' ?_ _ | refine bs ?_ (by omega))
theorem mulM (a b c d : Nat) (w : World) :
    Calls Try.prog 50 #[.agg #[.float .f64 a, .float .f64 b], .agg #[.float .f64 c, .float .f64 d]] w fun e w' => (∃ re im, e = .returned (.agg #[.float .f64 re, .float .f64 im]) ∧ tv re im = tmul (tv a b) (tv c d)) ∧ Below w.heap.size w w' := by
  go_enter Try.func50, Try.ntmps50
  go_wp2_with (refine upon_flt (by simp) ?_; intro _ _ _)
  refine bodyPost_ret (by simp [results, Try.results50, go_sem]; exact ⟨rfl, rfl⟩) rfl ⟨⟨_, _, rfl, by simp [tv, tmul, fa, fs, fm, *]⟩, ?_⟩
  repeat (first | exact Below.refl _ _ | refine ba ?_ _ | refine bel_dn' ?_ _ | refine bs ?_ (by omega))
theorem divM (a b c d : Nat) (w : World) :
    Calls Try.prog 52 #[.agg #[.float .f64 a, .float .f64 b], .agg #[.float .f64 c, .float .f64 d]] w fun e w' => (∃ re im, e = .returned (.agg #[.float .f64 re, .float .f64 im]) ∧ tv re im = tdiv (tv a b) (tv c d)) ∧ Below w.heap.size w w' := by
  go_enter Try.func52, Try.ntmps52
  go_wp2_with (refine upon_flt (by simp) ?_; intro _ _ _)
  refine bodyPost_ret (by simp [results, Try.results52, go_sem]; exact ⟨rfl, rfl⟩) rfl ⟨⟨_, _, rfl, by simp [tv, tdiv, tsq, fa, fs, fm, fq, *]⟩, ?_⟩
  repeat (first | exact Below.refl _ _ | refine ba ?_ _ | refine bel_dn' ?_ _ | refine bs ?_ (by omega))
theorem zeroM (a b : Nat) (w : World) :
    Calls Try.prog 51 #[.agg #[.float .f64 a, .float .f64 b]] w fun e w' => e = .returned (.bool (tzero (tv a b))) ∧ Below w.heap.size w w' := by
  have h1 : (FloatKind.f64.format.order a 0 == some .eq) = fz (Fv .f64 a) := by rw [order_fv, fv0]; rfl
  have h2 : (FloatKind.f64.format.order b 0 == some .eq) = fz (Fv .f64 b) := by rw [order_fv, fv0]; rfl
  unfold tzero tv
  simp only
  generalize fz (Fv .f64 a) = p at *
  generalize fz (Fv .f64 b) = q at *
  cases p <;> (
    go_enter Try.func51, Try.ntmps51
    go_wp2
    go_ret
    exact ⟨rfl, ba (Below.refl _ _) _⟩)
theorem shareM (a b c d : Nat) (w : World) :
    Calls Try.prog 49 #[.agg #[.float .f64 a, .float .f64 b], .agg #[.float .f64 c, .float .f64 d]] w fun e w' => (∃ re im, e = .returned (.agg #[.float .f64 re, .float .f64 im]) ∧ tv re im = tshare (tv a b) (tv c d)) ∧ Below w.heap.size w w' := by
  unfold tshare
  cases hz : tzero (tv c d) with
  | true =>
    go_enter Try.func49, Try.ntmps49
    go_wp2_with fail
    refine (zeroM _ _ _).mono ?_
    rintro e W1 ⟨rfl, hb⟩
    have k0 := keep1 hb (b := w.heap.size + 1 + 1) (o := 0) (v := .float .f64 0) (by simp [go_sem])
    have k1 := keep1 hb (b := w.heap.size + 1 + 1) (o := 1) (v := .float .f64 0) (by simp [go_sem])
    have f0 := keepz hb (b := w.heap.size + 1 + 1) (o := 0) (by simp [go_sem]) (by simp [go_sem])
    have f1 := keepz hb (b := w.heap.size + 1 + 1) (o := 1) (by simp [go_sem]) (by simp [go_sem])
    have HB := hide hb
    clear hb
    go_wp2_with fail
    refine bodyPost_ret (v := .agg #[.float .f64 0, .float .f64 0]) (by simp [results, Try.results49, go_sem, *]) rfl ⟨⟨_, _, rfl, rfl⟩, ?_⟩
    refine bs (bs (bc ?_ (unhide HB)) (by omega)) (by omega)
    exact ba (ba (ba (Below.refl _ _) _) _) _
  | false =>
    go_enter Try.func49, Try.ntmps49
    go_wp2_with fail
    refine (zeroM _ _ _).mono ?_
    rintro e W1 ⟨rfl, hb⟩
    have k0 := keep1 hb (b := w.heap.size + 1 + 1) (o := 0) (v := .float .f64 0) (by simp [go_sem])
    have k1 := keep1 hb (b := w.heap.size + 1 + 1) (o := 1) (v := .float .f64 0) (by simp [go_sem])
    have f0 := keepz hb (b := w.heap.size + 1 + 1) (o := 0) (by simp [go_sem]) (by simp [go_sem])
    have f1 := keepz hb (b := w.heap.size + 1 + 1) (o := 1) (by simp [go_sem]) (by simp [go_sem])
    have k2 := keep1 hb (b := w.heap.size) (o := 0) (v := .float .f64 a) (by simp [go_sem])
    have k3 := keep1 hb (b := w.heap.size) (o := 1) (v := .float .f64 b) (by simp [go_sem])
    have k4 := keep1 hb (b := w.heap.size + 1) (o := 0) (v := .float .f64 c) (by simp [go_sem])
    have k5 := keep1 hb (b := w.heap.size + 1) (o := 1) (v := .float .f64 d) (by simp [go_sem])
    have l2 := cell_lt k0
    have HB := hide hb
    clear hb
    go_wp2_with fail
    refine (divM _ _ _ _ _).mono ?_
    rintro e W2 ⟨⟨re, im, rfl, hv⟩, hb⟩
    have m0 := keep1 hb k0
    have m1 := keep1 hb k1
    have g0 := keepz hb (b := w.heap.size + 1 + 1) (o := 0) l2 f0
    have g1 := keepz hb (b := w.heap.size + 1 + 1) (o := 1) l2 f1
    have HB2 := hide hb
    have HV := hide hv
    clear hb hv k0 k1 k2 k3 k4 k5 f0 f1
    go_wp2_with fail
    refine bodyPost_ret (v := .agg #[.float .f64 re, .float .f64 im]) (by simp [results, Try.results49, go_sem, *]) rfl ⟨⟨_, _, rfl, unhide HV⟩, ?_⟩
    refine bs (bs (bc (bc ?_ (unhide HB)) (unhide HB2)) (by omega)) (by omega)
    exact ba (ba (ba (Below.refl _ _) _) _) _
theorem withinM (x lo hi : Nat) (w : World) :
    Calls Try.prog 55 #[.float .f64 x, .float .f64 lo, .float .f64 hi] w fun e w' => e = .returned (.bool (fin .f64 (Fv .f64 x) (Fv .f64 lo) (Fv .f64 hi))) ∧ w' = w := by
  have h1 := order_fv .f64 x lo
  have h2 := order_fv .f64 x hi
  unfold fin
  rw [← h1, ← h2]
  clear h1 h2
  cases h : (FloatKind.f64.format.order x lo == some .gt || FloatKind.f64.format.order x lo == some .eq) <;> (
    go_enter Try.func55, Try.ntmps55
    go_wp2
    go_ret
    exact ⟨rfl, rfl⟩)
theorem btw64 (x lo hi : Nat) (w : World) :
    Calls Try.prog 69 #[.float .f64 x, .float .f64 lo, .float .f64 hi] w fun e w' => e = .returned (.bool (fin .f64 (Fv .f64 x) (Fv .f64 lo) (Fv .f64 hi))) ∧ w' = w := by
  have h1 := order_fv .f64 lo x
  have h2 := order_fv .f64 x hi
  unfold fin
  rw [← le_ge, ← h1, ← h2]
  clear h1 h2
  cases h : (FloatKind.f64.format.order lo x == some .lt || FloatKind.f64.format.order lo x == some .eq) <;> (
    go_enter Try.func69, Try.ntmps69
    go_wp2
    go_ret
    exact ⟨rfl, rfl⟩)
theorem btw32 (x lo hi : Nat) (w : World) :
    Calls Try.prog 59 #[.float .f32 x, .float .f32 lo, .float .f32 hi] w fun e w' => e = .returned (.bool (fin .f32 (Fv .f32 x) (Fv .f32 lo) (Fv .f32 hi))) ∧ w' = w := by
  have h1 := order_fv .f32 lo x
  have h2 := order_fv .f32 x hi
  unfold fin
  rw [← le_ge, ← h1, ← h2]
  clear h1 h2
  cases h : (FloatKind.f32.format.order lo x == some .lt || FloatKind.f32.format.order lo x == some .eq) <;> (
    go_enter Try.func59, Try.ntmps59
    go_wp2
    go_ret
    exact ⟨rfl, rfl⟩)
theorem toneP (a b : Nat) (w : World) :
    Calls Try.prog 72 #[.complex .f64 a b] w fun e w' => e = .returned (.agg #[.float .f64 a, .float .f64 b]) ∧ Below w.heap.size w w' := by
  go_enter Try.func72, Try.ntmps72
  go_wp2_with fail
  refine bodyPost_ret (v := .agg #[.float .f64 a, .float .f64 b]) (by simp [results, Try.results72, go_sem]) rfl ⟨rfl, ?_⟩
  repeat (first | exact Below.refl _ _ | refine ba ?_ _ | refine bel_dn' ?_ _ | refine bs ?_ (by omega))
theorem sqP (a b : Nat) (w : World) :
    Calls Try.prog 73 #[.complex .f64 a b] w fun e w' => (∃ r, e = .returned (.float .f64 r) ∧ Fv .f64 r = tsq (tv a b)) ∧ Same w w' := by
  go_enter Try.func73, Try.ntmps73
  go_wp2_with (refine upon_flt (by simp) ?_; intro _ _ _)
  go_ret
  exact ⟨⟨_, rfl, by simp [tv, tsq, fa, fs, fm, fq, *]⟩, ⟨rfl, rfl, rfl, rfl⟩⟩
theorem mulP (a b c d : Nat) (w : World) :
    Calls Try.prog 71 #[.complex .f64 a b, .complex .f64 c d] w fun e w' => (∃ re im, e = .returned (.complex .f64 re im) ∧ tv re im = tmul (tv a b) (tv c d)) ∧ Same w w' := by
  go_enter Try.func71, Try.ntmps71
  go_wp2_with (refine upon_flt (by simp) ?_; intro _ _ _)
  go_ret
  exact ⟨⟨_, _, rfl, by simp [tv, tmul, fa, fs, fm, *]⟩, ⟨rfl, rfl, rfl, rfl⟩⟩
theorem byP (a b c d : Nat) (w : World) :
    Calls Try.prog 70 #[.complex .f64 a b, .complex .f64 c d] w fun e w' => (∃ re im, e = .returned (.complex .f64 re im) ∧ tv re im = tshare (tv a b) (tv c d)) ∧ Same w w' := by
  have hz : ((FloatKind.f64.format.order c 0 == some .eq) && (FloatKind.f64.format.order d 0 == some .eq)) = tzero (tv c d) := by rw [order_fv, order_fv, fv0]; rfl
  unfold tshare
  cases h : tzero (tv c d) with
  | true =>
    rw [h] at hz
    go_enter Try.func70, Try.ntmps70
    go_wp2_with fail
    go_ret
    exact ⟨⟨_, _, rfl, rfl⟩, Same.refl _⟩
  | false =>
    rw [h] at hz
    go_enter Try.func70, Try.ntmps70
    go_wp2_with fail
    refine (sqP _ _ _).mono ?_
    rintro e W1 ⟨⟨r, rfl, hr⟩, hs⟩
    have HS := hide hs
    clear hs
    go_wp2_with (refine upon_flt (by simp) ?_; intro _ _ _)
    go_ret
    exact ⟨⟨_, _, rfl, by simp_all [tv, tdiv, fa, fs, fm, fq]⟩, Same.trans (unhide HS) ⟨rfl, rfl, rfl, rfl⟩⟩
end Go.Proofs.Ytgocgcnpgmamiaa
