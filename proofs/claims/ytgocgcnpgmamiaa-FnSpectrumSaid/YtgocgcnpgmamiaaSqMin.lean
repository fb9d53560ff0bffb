/-
  The lesser and the greater of two floating numbers; a calmed number against both ends.
-/
import Derived.Test.YtgocgcnpgmamiaaSqSum
namespace Go.Proofs.Ytgocgcnpgmamiaa
open Go.ChangeShapes Go.WideShapes Go.ChangeAt Go.RowKit
set_option linter.unusedVariables false
set_option linter.unusedSimpArgs false

theorem min_run {k : FloatKind} {x y : Nat} (hx : isNum k x) (hy : isNum k y) : ∃ r, (∀ (ts : Array TypeId) (t : TypeId) (W : World), (Builtin.min_ ts t #[.float k x, .float k y]).run Try.prog W = .ok (.float k r) W) ∧ isNum k r ∧ val k r ≤ val k x ∧ val k r ≤ val k y ∧ (val k r = val k x ∨ val k r = val k y) := by
  have ho := order_val hx hy
  by_cases h1 : val k x < val k y
  · rw [if_pos h1] at ho
    refine ⟨x, fun ts t W => ?_, hx, by grind, by grind, .inl rfl⟩
    simp [Builtin.min_, Builtin.min2, ho]
  · rw [if_neg h1] at ho
    by_cases h2 : val k x = val k y
    · rw [if_pos h2] at ho
      cases hb : (k.decode x).neg with
      | true =>
        refine ⟨x, fun ts t W => ?_, hx, by grind, by grind, .inl rfl⟩
        simp [Builtin.min_, Builtin.min2, ho, hb]
      | false =>
        refine ⟨y, fun ts t W => ?_, hy, by grind, by grind, .inr rfl⟩
        simp [Builtin.min_, Builtin.min2, ho, hb]
    · rw [if_neg h2] at ho
      refine ⟨y, fun ts t W => ?_, hy, by grind, by grind, .inr rfl⟩
      simp [Builtin.min_, Builtin.min2, ho]
theorem max_run {k : FloatKind} {x y : Nat} (hx : isNum k x) (hy : isNum k y) : ∃ r, (∀ (ts : Array TypeId) (t : TypeId) (W : World), (Builtin.max_ ts t #[.float k x, .float k y]).run Try.prog W = .ok (.float k r) W) ∧ isNum k r ∧ val k x ≤ val k r ∧ val k y ≤ val k r ∧ (val k r = val k x ∨ val k r = val k y) := by
  have ho := order_val hx hy
  by_cases h1 : val k x < val k y
  · rw [if_pos h1] at ho
    refine ⟨y, fun ts t W => ?_, hy, by grind, by grind, .inr rfl⟩
    simp [Builtin.max_, Builtin.max2, ho]
  · rw [if_neg h1] at ho
    by_cases h2 : val k x = val k y
    · rw [if_pos h2] at ho
      cases hb : (k.decode x).neg with
      | true =>
        refine ⟨y, fun ts t W => ?_, hy, by grind, by grind, .inr rfl⟩
        simp [Builtin.max_, Builtin.max2, ho, hb]
      | false =>
        refine ⟨x, fun ts t W => ?_, hx, by grind, by grind, .inl rfl⟩
        simp [Builtin.max_, Builtin.max2, ho, hb]
    · rw [if_neg h2] at ho
      refine ⟨x, fun ts t W => ?_, hx, by grind, by grind, .inl rfl⟩
      simp [Builtin.max_, Builtin.max2, ho]
theorem one32 : isNum .f32 1065353216 ∧ val .f32 1065353216 = 1 := by
  have := cval (k := .f32) (x := 1065353216) (s := false) (m := 8388608) (n := 23) rfl
  have e : ((2 ^ 23 : Nat) : Rat) = 8388608 := rfl
  rw [e] at this
  simp only [sg] at this
  exact ⟨⟨_, _, _, rfl⟩, by grind⟩
/-- what holds between the rounds of the last loop -/
structure Lw (Y : List Nat) (i lo hi : Nat) : Prop where
  nl : isNum .f32 lo
  nh : isNum .f32 hi
  l1 : -1000001 ≤ val .f32 lo
  l2 : val .f32 lo ≤ 1000001
  h1 : -1000001 ≤ val .f32 hi
  h2 : val .f32 hi ≤ 1000001
  all : ∀ j, j < i ∨ j = 0 → val .f32 lo ≤ yv Y j ∧ yv Y j ≤ val .f32 hi
theorem yv_of {Y : List Nat} {i x y : Nat} (hx : Y[i]? = some x) (hy : cvt x = some y) : yv Y i = val .f32 y := by
  unfold yv
  rw [List.getD_eq_getElem?_getD, hx, Option.getD_some, hy, Option.getD_some]
theorem lw_start {Y : List Nat} {x y : Nat} (hx : Y[0]? = some x) (hs : smp x = true) (hy : cvt x = some y) : Lw Y 0 y y := by
  obtain ⟨y', h1, h2, h3, h4⟩ := cvt_at hs
  rw [hy] at h1
  cases h1
  refine ⟨h2, h2, h3, h4, h3, h4, fun j hj => ?_⟩
  have : j = 0 := by omega
  subst this
  rw [yv_of hx hy]
  exact ⟨by grind, by grind⟩
theorem lw_step {Y : List Nat} {i lo hi x y c n sh : Nat} (h : Lw Y i lo hi) (hx : Y[i]? = some x) (hs : smp x = true) (hy : cvt x = some y) (hin : i < n) (hall : ∀ j, j < n → smp (Y.getD j 0) = true) (hsh : shOk sh = true) (hc : cl Y (some sh) i = some c) :
    ∃ lo' hi' l h', (∀ (ts : Array TypeId) (t : TypeId) (W : World), (Builtin.min_ ts t #[.float .f32 lo, .float .f32 y]).run Try.prog W = .ok (.float .f32 lo') W) ∧ (∀ (ts : Array TypeId) (t : TypeId) (W : World), (Builtin.max_ ts t #[.float .f32 hi, .float .f32 y]).run Try.prog W = .ok (.float .f32 hi') W)
      ∧ floatBits .sub .f32 lo' 1065353216 = some l ∧ floatBits .add .f32 hi' 1065353216 = some h' ∧ (FloatKind.f32.format.order c l == some .lt) = false ∧ (FloatKind.f32.format.order c h' == some .gt) = false ∧ Lw Y (i + 1) lo' hi' := by
  obtain ⟨y', g1, ny, y1, y2⟩ := cvt_at hs
  rw [hy] at g1
  cases g1
  obtain ⟨n1, v1⟩ := one32
  obtain ⟨lo', m1, nlo, a1, a2, a3⟩ := min_run h.nl ny
  obtain ⟨hi', m2, nhi, b1, b2, b3⟩ := max_run h.nh ny
  have k1 := h.l1
  have k2 := h.l2
  have k3 := h.h1
  have k4 := h.h2
  have htop := top32
  have e1v : e1 .f32 = 1 / 10000000 := rfl
  have e2v : e2 = 1 / 1000000000000000000000000000000 := rfl
  have hlo1 : -1000001 ≤ val .f32 lo' := by rcases a3 with q | q <;> grind
  have hlo2 : val .f32 lo' ≤ 1000001 := by grind
  have hhi1 : -1000001 ≤ val .f32 hi' := by grind
  have hhi2 : val .f32 hi' ≤ 1000001 := by rcases b3 with q | q <;> grind
  obtain ⟨l, fl, nl, l1, l2⟩ := sub_val nlo n1 1000010 (by grind) (by grind) (by grind)
  obtain ⟨h', fh, nh, h1, h2⟩ := add_val nhi n1 1000010 (by grind) (by grind) (by grind)
  rw [e1v, e2v, v1] at l1 l2 h1 h2
  have hall' : ∀ j, j < i + 1 ∨ j = 0 → val .f32 lo' ≤ yv Y j ∧ yv Y j ≤ val .f32 hi' := fun j hj => by
    by_cases hji : j = i
    · subst hji
      rw [yv_of hx hy]
      exact ⟨a2, b2⟩
    · have := h.all j (by omega)
      exact ⟨by grind, by grind⟩
  obtain ⟨n0, v0⟩ := val32_0
  have hb := btw_val (k := .f32) n0 n1 hsh
  rw [v0, v1] at hb
  obtain ⟨c', hc', nc, hcb⟩ := cl_near hall (num_of_between n0 n1 hsh) hb.1 hb.2 i hin
  rw [hc] at hc'
  cases hc'
  obtain ⟨c1, c2⟩ := hcb (val .f32 lo') (val .f32 hi') (fun j hj => hall' j (by omega))
  refine ⟨lo', hi', l, h', m1, m2, fl, fh, ?_, ?_, ⟨nlo, nhi, hlo1, hlo2, hhi1, hhi2, hall'⟩⟩
  · rw [order_val nc nl, if_neg (by grind)]
    split <;> rfl
  · rw [order_val nc nh]
    split
    · rfl
    · split
      · rfl
      · grind
end Go.Proofs.Ytgocgcnpgmamiaa
