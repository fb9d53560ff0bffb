/-
  Both sides find the same points: the program's row of all coordinates, and the model's two axes.
-/
import Derived.Test.YtchdmigeopmacaaSolveP
import Derived.Test.YtchdmigeopmacaaLow2
namespace Go.Proofs.Ytchdmigeopmacaa
set_option linter.unusedVariables false

theorem sat_append (a b : List Edge) (z : Nat → Int) : Sat (a ++ b) z ↔ Sat a z ∧ Sat b z := by
  constructor
  · intro h
    exact ⟨fun e he => h e (List.mem_append_left _ he), fun e he => h e (List.mem_append_right _ he)⟩
  · rintro ⟨h1, h2⟩ e he
    rcases List.mem_append.1 he with h | h
    · exact h1 e h
    · exact h2 e h
theorem sat_flatMap {α : Type} (l : List α) (f : α → List Edge) (z : Nat → Int) : Sat (l.flatMap f) z ↔ ∀ r ∈ l, Sat (f r) z := by
  constructor
  · intro h r hr e he
    exact h e (List.mem_flatMap.2 ⟨r, hr, he⟩)
  · intro h e he
    obtain ⟨r, hr, h1⟩ := List.mem_flatMap.1 he
    exact h r hr e h1
theorem sat_nil (z : Nat → Int) : Sat [] z ↔ True := ⟨fun _ => trivial, fun _ e he => by cases he⟩
theorem sat_cons (e : Edge) (l : List Edge) (z : Nat → Int) : Sat (e :: l) z ↔ z e.1 + e.2.2 ≤ z e.2.1 ∧ Sat l z := by
  constructor
  · intro h
    exact ⟨h e List.mem_cons_self, h.tail⟩
  · rintro ⟨h1, h2⟩ x hx
    rcases List.mem_cons.1 hx with rfl | hx
    · exact h1
    · exact h2 x hx
/-- the program's edges of rules -/
def esP (rk : List Ru) : List Edge := (rk.flatMap spR).flatMap spE
/-- the two axes and the row of all -/
structure Rel3 (N : Nat) (x y z : Nat → Int) : Prop where
  xs : ∀ i, i < N → x i = z (2 * i + 1)
  ys : ∀ i, i < N → y i = z (2 * i + 2)
  x0 : x N = 0
  y0 : y N = 0
  z0 : z 0 = 0
theorem rule_sat {N : Nat} {x y z : Nat → Int} {r : Ru} (hr : ruOk (N : Int) r = true) (h : Rel3 N x y z) : (∀ s ∈ spR r, Sat (spE s) z) ↔ Sat (ruS N 0 r) x ∧ Sat (ruS N 1 r) y := by
  obtain ⟨k, a, b, m⟩ := r
  obtain ⟨h1, h2, h3, h4⟩ := of_decide_eq_true hr
  simp only at h1 h2 h3 h4
  have ha : a.toNat < N := by omega
  have xa := h.xs _ ha
  have ya := h.ys _ ha
  have x0 := h.x0
  have y0 := h.y0
  have z0 := h.z0
  have hk : k = 1 ∨ k = 2 ∨ k = 3 ∨ k = 4 ∨ k = 5 ∨ k = 6 ∨ k = 7 ∨ k = 8 ∨ k = 9 := by omega
  rcases hk with rfl | rfl | rfl | rfl | rfl | rfl | rfl | rfl | rfl
  · simp [spR, ruS, spE, sat_cons, sat_nil, xa, x0, z0]
  · simp [spR, ruS, spE, sat_cons, sat_nil, ya, y0, z0]
  all_goals
    have hb : b.toNat < N := by simp at h3; omega
    have xb := h.xs _ hb
    have yb := h.ys _ hb
  · simp [spR, ruS, spE, sat_cons, sat_nil, xa, xb]
  · simp [spR, ruS, spE, sat_cons, sat_nil, ya, yb]
  · simp [spR, ruS, spE, sat_cons, sat_nil, xa, xb]
  · simp [spR, ruS, spE, sat_cons, sat_nil, ya, yb]
  · simp at h4
    subst h4
    simp [spR, ruS, spE, sat_cons, sat_nil, xa, xb]
  · simp at h4
    subst h4
    simp [spR, ruS, spE, sat_cons, sat_nil, ya, yb]
  · simp [spR, ruS, spE, sat_cons, sat_nil, xa, xb, ya, yb]
theorem pre_sat (N : Nat) (x : Nat → Int) (x0 : x N = 0) : ∀ i, Sat (preS N i) x ↔ ∀ j, j < i → 0 ≤ x j ∧ x j ≤ 100000 := by
  intro i
  induction i with
  | zero => exact ⟨fun _ j hj => by omega, fun _ e he => by cases he⟩
  | succ i ih =>
    rw [preS_succ, sat_append, ih, sat_cons, sat_cons, sat_nil]
    simp only [x0]
    constructor
    · rintro ⟨h1, h2, h3, _⟩ j hj
      by_cases h : j < i
      · exact h1 j h
      · rw [show j = i by omega]; omega
    · intro h
      have hi := h i (by omega)
      exact ⟨fun j hj => h j (by omega), by omega, by omega, trivial⟩
theorem ins_append {n : Nat} {a b : List Edge} (ha : Ins n a) (hb : Ins n b) : Ins n (a ++ b) := fun e he => (List.mem_append.1 he).elim (ha e) (hb e)
theorem ins_P {N : Nat} {rk : List Ru} (h : ∀ r ∈ rk, ruOk (N : Int) r = true) : Ins (2 * N + 1) (esP rk) := by
  intro e he
  obtain ⟨s, hs, h1⟩ := List.mem_flatMap.1 he
  obtain ⟨r, hr, h2⟩ := List.mem_flatMap.1 hs
  have := spE_in (spR_in (h r hr) s h2) e h1
  exact ⟨this.1, this.2.1⟩
theorem mem_ruS {N : Nat} {axis : Int} {r : Ru} (hr : ruOk (N : Int) r = true) (hx : axis = 0 ∨ axis = 1) : ∀ e ∈ ruS N axis r, e.1 < N + 1 ∧ e.2.1 < N + 1 ∧ -100000 ≤ e.2.2 ∧ e.2.2 ≤ 100000 := by
  obtain ⟨k, a, b, m⟩ := r
  obtain ⟨h1, h2, h3, h4⟩ := of_decide_eq_true hr
  simp only at h1 h2 h3 h4
  have ha : a.toNat < N := by omega
  have hm : -100000 ≤ m ∧ m ≤ 100000 := by split at h4 <;> omega
  have hb : 3 ≤ k → b.toNat < N := fun h => by rw [if_pos h] at h3; omega
  intro e he
  unfold ruS at he
  simp only at he
  split at he
  · simp only [List.mem_cons, List.not_mem_nil, or_false] at he
    rcases he with rfl | rfl <;> simp only <;> omega
  split at he
  · have hb' := hb (by omega)
    simp only [List.mem_cons, List.not_mem_nil, or_false] at he
    rcases he with rfl | rfl <;> simp only <;> omega
  split at he
  · have hb' := hb (by omega)
    simp only [List.mem_cons, List.not_mem_nil, or_false] at he
    subst he
    simp only
    omega
  split at he
  · have hb' := hb (by omega)
    simp only [List.mem_cons, List.not_mem_nil, or_false] at he
    rcases he with rfl | rfl <;> simp only <;> omega
  · cases he
theorem mem_pre {N : Nat} : ∀ i, i ≤ N → ∀ e ∈ preS N i, e.1 < N + 1 ∧ e.2.1 < N + 1 ∧ -100000 ≤ e.2.2 ∧ e.2.2 ≤ 100000 := by
  intro i
  induction i with
  | zero => intro _ e he; cases he
  | succ i ih =>
    intro hi e he
    rw [preS_succ] at he
    rcases List.mem_append.1 he with h | h
    · exact ih (by omega) e h
    · simp only [List.mem_cons, List.not_mem_nil, or_false] at h
      rcases h with rfl | rfl <;> simp only <;> omega
theorem mem_stepsM {N : Nat} {axis : Int} {rk : List Ru} (h : ∀ r ∈ rk, ruOk (N : Int) r = true) (hx : axis = 0 ∨ axis = 1) : ∀ e ∈ stepsM N axis rk, e.1 < N + 1 ∧ e.2.1 < N + 1 ∧ -100000 ≤ e.2.2 ∧ e.2.2 ≤ 100000 := by
  intro e he
  rcases List.mem_append.1 he with h1 | h1
  · exact mem_pre N (Nat.le_refl _) e h1
  · obtain ⟨r, hr, h2⟩ := List.mem_flatMap.1 h1
    exact mem_ruS (h r hr) hx e h2
theorem ins_M {N : Nat} {axis : Int} {rk : List Ru} (h : ∀ r ∈ rk, ruOk (N : Int) r = true) (hx : axis = 0 ∨ axis = 1) : Ins (N + 1) (stepsM N axis rk) := fun e he => ⟨(mem_stepsM h hx e he).1, (mem_stepsM h hx e he).2.1⟩

/-- the program's answer -/
def goP (N : Nat) (rk : List Ru) : List Int × Bool := go (esP rk) (2 * N + 1) (zer (2 * N + 1))
def keptP (N : Nat) (rk : List Ru) : Bool := (goP N rk).2 && fineA (2 * N + 1) (goP N rk).1
/-- the model's answer of an axis -/
def goM (N : Nat) (axis : Int) (rk : List Ru) : List Int × Bool := go (stepsM N axis rk) (N + 2) (zer (N + 1))
def keptM (N : Nat) (axis : Int) (rk : List Ru) : Bool := (goM N axis rk).2 && decide (gt (goM N axis rk).1 N = 0)

def FP (N : Nat) (rk : List Ru) (z : Nat → Int) : Prop := Feas (2 * N + 1) (esP rk) z ∧ z 0 = 0 ∧ ∀ i, i < 2 * N + 1 → z i ≤ 100000
def FM (N : Nat) (axis : Int) (rk : List Ru) (x : Nat → Int) : Prop := Feas (N + 1) (stepsM N axis rk) x ∧ x N = 0
theorem keptP_iff {N : Nat} {rk : List Ru} (h : ∀ r ∈ rk, ruOk (N : Int) r = true) : keptP N rk = true ↔ ∃ z, FP N rk z := by
  constructor
  · intro hk
    unfold keptP at hk
    rw [Bool.and_eq_true] at hk
    have h1 := go_zer (ins_P h) hk.1
    unfold fineA at hk
    rw [Bool.and_eq_true, decide_eq_true_eq, decide_eq_true_eq] at hk
    exact ⟨_, h1.1, hk.2.1, hk.2.2⟩
  · rintro ⟨z, hz, z0, zm⟩
    have hb : (goP N rk).2 = true := go_just (by omega) (ins_P h) ⟨z, hz, z0⟩
    have h1 := go_zer (ins_P h) hb
    have h2 := h1.2 z hz
    unfold keptP fineA
    rw [hb, Bool.true_and, Bool.and_eq_true, decide_eq_true_eq, decide_eq_true_eq]
    refine ⟨?_, fun i hi => Int.le_trans (h2 i hi) (zm i hi)⟩
    have h3 := h2 0 (by omega)
    have h4 := h1.1.2 0 (by omega)
    unfold goP
    omega
theorem keptM_iff {N : Nat} {axis : Int} {rk : List Ru} (h : ∀ r ∈ rk, ruOk (N : Int) r = true) (hx : axis = 0 ∨ axis = 1) : keptM N axis rk = true ↔ ∃ x, FM N axis rk x := by
  constructor
  · intro hk
    unfold keptM at hk
    rw [Bool.and_eq_true, decide_eq_true_eq] at hk
    exact ⟨_, (go_zer (ins_M h hx) hk.1).1, hk.2⟩
  · rintro ⟨x, hz, z0⟩
    have hb : (goM N axis rk).2 = true := go_more (ins_M h hx) ⟨x, hz⟩
    have h1 := go_zer (ins_M h hx) hb
    have h2 := h1.2 x hz N (by omega)
    have h4 := h1.1.2 N (by omega)
    unfold keptM
    rw [hb, Bool.true_and, decide_eq_true_eq]
    unfold goM
    omega
theorem all_sat {N : Nat} {x y z : Nat → Int} {rk : List Ru} (h : ∀ r ∈ rk, ruOk (N : Int) r = true) (hr : Rel3 N x y z) : Sat (esP rk) z ↔ Sat (rk.flatMap (ruS N 0)) x ∧ Sat (rk.flatMap (ruS N 1)) y := by
  unfold esP
  rw [sat_flatMap, sat_flatMap, sat_flatMap]
  constructor
  · intro h1
    have h2 : ∀ r ∈ rk, Sat (ruS N 0 r) x ∧ Sat (ruS N 1 r) y := fun r hr' => (rule_sat (h r hr') hr).1 fun s hs => h1 s (List.mem_flatMap.2 ⟨r, hr', hs⟩)
    exact ⟨fun r hr' => (h2 r hr').1, fun r hr' => (h2 r hr').2⟩
  · rintro ⟨h1, h2⟩ s hs
    obtain ⟨r, hr', h3⟩ := List.mem_flatMap.1 hs
    exact (rule_sat (h r hr') hr).2 ⟨h1 r hr', h2 r hr'⟩ s h3
theorem to_axes {N : Nat} {x y z : Nat → Int} {rk : List Ru} (h : ∀ r ∈ rk, ruOk (N : Int) r = true) (hr : Rel3 N x y z) : FP N rk z ↔ FM N 0 rk x ∧ FM N 1 rk y := by
  have hs := all_sat h hr
  constructor
  · rintro ⟨⟨h1, h2⟩, h3, h4⟩
    have h5 := hs.1 h1
    refine ⟨⟨⟨?_, fun i hi => ?_⟩, hr.x0⟩, ⟨⟨?_, fun i hi => ?_⟩, hr.y0⟩⟩
    · exact (sat_append _ _ _).2 ⟨(pre_sat N x hr.x0 N).2 fun j hj => by rw [hr.xs j hj]; exact ⟨h2 _ (by omega), h4 _ (by omega)⟩, h5.1⟩
    · by_cases hN : i < N
      · rw [hr.xs i hN]; exact h2 _ (by omega)
      · rw [show i = N by omega, hr.x0]; omega
    · exact (sat_append _ _ _).2 ⟨(pre_sat N y hr.y0 N).2 fun j hj => by rw [hr.ys j hj]; exact ⟨h2 _ (by omega), h4 _ (by omega)⟩, h5.2⟩
    · by_cases hN : i < N
      · rw [hr.ys i hN]; exact h2 _ (by omega)
      · rw [show i = N by omega, hr.y0]; omega
  · rintro ⟨⟨⟨h1, h2⟩, _⟩, ⟨⟨h3, h4⟩, _⟩⟩
    have a1 := (sat_append _ _ _).1 h1
    have a3 := (sat_append _ _ _).1 h3
    have p1 := (pre_sat N x hr.x0 N).1 a1.1
    have p3 := (pre_sat N y hr.y0 N).1 a3.1
    have each : ∀ i, i < 2 * N + 1 → 0 ≤ z i ∧ z i ≤ 100000 := by
      intro i hi
      by_cases h0 : i = 0
      · rw [h0, hr.z0]; omega
      · by_cases hp : i % 2 = 1
        · have e : i = 2 * (i / 2) + 1 := by omega
          have := p1 (i / 2) (by omega)
          rw [hr.xs (i / 2) (by omega), ← e] at this
          exact this
        · have e : i = 2 * (i / 2 - 1) + 2 := by omega
          have := p3 (i / 2 - 1) (by omega)
          rw [hr.ys (i / 2 - 1) (by omega), ← e] at this
          exact this
    exact ⟨⟨hs.2 ⟨a1.2, a3.2⟩, fun i hi => (each i hi).1⟩, hr.z0, fun i hi => (each i hi).2⟩
theorem rel_of (N : Nat) (z : Nat → Int) (z0 : z 0 = 0) : Rel3 N (fun i => if i < N then z (2 * i + 1) else 0) (fun i => if i < N then z (2 * i + 2) else 0) z :=
  ⟨fun i hi => if_pos hi, fun i hi => if_pos hi, if_neg (by omega), if_neg (by omega), z0⟩
theorem rel_to (N : Nat) (x y : Nat → Int) (x0 : x N = 0) (y0 : y N = 0) : Rel3 N x y (fun i => if i = 0 then 0 else if i % 2 = 1 then x (i / 2) else y (i / 2 - 1)) := by
  refine ⟨fun i hi => ?_, fun i hi => ?_, x0, y0, rfl⟩
  · show x i = if 2 * i + 1 = 0 then 0 else if (2 * i + 1) % 2 = 1 then x ((2 * i + 1) / 2) else _
    rw [if_neg (by omega), if_pos (by omega), show (2 * i + 1) / 2 = i by omega]
  · show y i = if 2 * i + 2 = 0 then 0 else if (2 * i + 2) % 2 = 1 then _ else y ((2 * i + 2) / 2 - 1)
    rw [if_neg (by omega), if_neg (by omega), show (2 * i + 2) / 2 - 1 = i by omega]
/-- all rules are kept on the one side just if they are on the other -/
theorem kept_same {N : Nat} {rk : List Ru} (h : ∀ r ∈ rk, ruOk (N : Int) r = true) : keptP N rk = (keptM N 0 rk && keptM N 1 rk) := by
  rw [Bool.eq_iff_iff, Bool.and_eq_true, keptP_iff h, keptM_iff h (.inl rfl), keptM_iff h (.inr rfl)]
  constructor
  · rintro ⟨z, hz⟩
    have := (to_axes h (rel_of N z hz.2.1)).1 hz
    exact ⟨⟨_, this.1⟩, ⟨_, this.2⟩⟩
  · rintro ⟨⟨x, hx⟩, ⟨y, hy⟩⟩
    exact ⟨_, (to_axes h (rel_to N x y hx.2 hy.2)).2 ⟨hx, hy⟩⟩
/-- and the points are the same -/
theorem pts_same {N : Nat} {rk : List Ru} (h : ∀ r ∈ rk, ruOk (N : Int) r = true) (hk : keptP N rk = true) : ptsP (goP N rk).1 N = ptsOf (goM N 0 rk).1 (goM N 1 rk).1 N := by
  have hk' := hk
  unfold keptP at hk'
  rw [Bool.and_eq_true] at hk'
  have hp := go_zer (ins_P h) hk'.1
  have hf := hk'.2
  unfold fineA at hf
  rw [Bool.and_eq_true, decide_eq_true_eq, decide_eq_true_eq] at hf
  have hm := hk
  rw [kept_same h, Bool.and_eq_true] at hm
  obtain ⟨m0, m1⟩ := hm
  unfold keptM at m0 m1
  rw [Bool.and_eq_true, decide_eq_true_eq] at m0 m1
  have g0 := go_zer (ins_M h (.inl rfl)) m0.1
  have g1 := go_zer (ins_M h (.inr rfl)) m1.1
  have hA : FP N rk (gt (goP N rk).1) := ⟨hp.1, hf.1, hf.2⟩
  have hax := (to_axes h (rel_of N _ hf.1)).1 hA
  have hz := (to_axes h (rel_to N _ _ m0.2 m1.2)).2 ⟨⟨g0.1, m0.2⟩, ⟨g1.1, m1.2⟩⟩
  have r := rel_to N _ _ m0.2 m1.2
  have ex : ∀ i, i < N → gt (goP N rk).1 (2 * i + 1) = gt (goM N 0 rk).1 i ∧ gt (goP N rk).1 (2 * i + 2) = gt (goM N 1 rk).1 i := by
    intro i hi
    have a1 := hp.2 _ hz.1 (2 * i + 1) (by omega)
    have a2 := hp.2 _ hz.1 (2 * i + 2) (by omega)
    rw [← r.xs i hi] at a1
    rw [← r.ys i hi] at a2
    have b1 := g0.2 _ hax.1.1 i (by omega)
    have b2 := g1.2 _ hax.2.1 i (by omega)
    simp only [if_pos hi] at b1 b2
    exact ⟨Int.le_antisymm a1 b1, Int.le_antisymm a2 b2⟩
  unfold ptsP ptsOf
  have : ∀ k, k ≤ N → (List.range k).flatMap (fun i => [gt (goP N rk).1 (2 * i + 1), gt (goP N rk).1 (2 * i + 2)]) = (List.range k).flatMap fun i => [gt (goM N 0 rk).1 i, gt (goM N 1 rk).1 i] := by
    intro k
    induction k with
    | zero => intro _; rfl
    | succ k ih =>
      intro hk
      rw [List.range_succ, List.flatMap_append, List.flatMap_append, ih (by omega)]
      have := ex k (by omega)
      simp [this.1, this.2]
  exact this N (Nat.le_refl _)
end Go.Proofs.Ytchdmigeopmacaa
