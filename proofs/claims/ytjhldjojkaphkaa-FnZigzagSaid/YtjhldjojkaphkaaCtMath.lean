/-
  An outline goes round and comes back: its steps are a permutation of the units that have a column above on their left and none on their right.
-/
import Derived.Test.YtjhldjojkaphkaaProg
namespace Go.Proofs.Ytjhldjojkaphkaa
set_option linter.unusedVariables false
set_option linter.unusedSimpArgs false

/-- too many for so few places -/
theorem pigeon : ∀ (N : Nat) (g : Nat → Nat), (∀ i, i ≤ N → g i < N) → ∃ i j, i < j ∧ j ≤ N ∧ g i = g j := by
  intro N
  induction N with
  | zero => intro g h; exact absurd (h 0 (Nat.le_refl _)) (Nat.not_lt_zero _)
  | succ N ih =>
    intro g h
    by_cases hv : ∃ i, i ≤ N ∧ g i = g (N + 1)
    · obtain ⟨i, h1, h2⟩ := hv
      exact ⟨i, N + 1, by omega, Nat.le_refl _, h2⟩
    · have hne : ∀ i, i ≤ N → g i ≠ g (N + 1) := fun i hi e => hv ⟨i, hi, e⟩
      obtain ⟨i, j, hij, hj, he⟩ := ih (fun i => if g i = N then g (N + 1) else g i) (fun i hi => by
        have h1 := h i (by omega)
        have h2 := h (N + 1) (Nat.le_refl _)
        have h3 := hne i hi
        show (if g i = N then g (N + 1) else g i) < N
        split <;> omega)
      refine ⟨i, j, hij, by omega, ?_⟩
      have h1 := hne i (by omega)
      have h2 := hne j hj
      split at he <;> split at he <;> omega
/-- so many steps -/
def itr {α : Type} (f : α → α) (s : α) : Nat → α
  | 0 => s
  | k + 1 => f (itr f s k)
/-- what comes again comes back to the beginning -/
theorem comes_back {α : Type} (f : α → α) (ok : α → Prop) (code : α → Nat) (N : Nat) (hok : ∀ a, ok a → ok (f a)) (hinj : ∀ a b, ok a → ok b → f a = f b → a = b) (hcode : ∀ a b, ok a → ok b → code a = code b → a = b) (hN : ∀ a, ok a → code a < N) (s : α) (hs : ok s) :
    ∃ k, 1 ≤ k ∧ k ≤ N ∧ itr f s k = s := by
  have hall : ∀ k, ok (itr f s k) := by
    intro k
    induction k with
    | zero => exact hs
    | succ k ih => exact hok _ ih
  obtain ⟨i, j, hij, hj, he⟩ := pigeon N (fun i => code (itr f s i)) (fun i _ => hN _ (hall i))
  have e1 : itr f s i = itr f s j := hcode _ _ (hall i) (hall j) he
  have back : ∀ d, d ≤ i → itr f s (i - d) = itr f s (j - d) := by
    intro d
    induction d with
    | zero => intro _; exact e1
    | succ d ih =>
      intro hd
      have h1 := ih (by omega)
      rw [show i - d = (i - (d + 1)) + 1 by omega, show j - d = (j - (d + 1)) + 1 by omega] at h1
      exact hinj _ _ (hall _) (hall _) h1
  have h0 := back i (Nat.le_refl _)
  rw [Nat.sub_self] at h0
  exact ⟨j - i, by omega, by omega, h0.symm⟩
/-- the ways: 0 along X, 1 along Y, 2 and 3 back -/
def wx (d : Nat) : Int := if d = 0 then 1 else if d = 2 then -1 else 0
def wy (d : Nat) : Int := if d = 1 then 1 else if d = 3 then -1 else 0
/-- the four columns at a corner, by their lower left corners: 0 right above, then round to the left -/
def qx (q : Nat) : Int := if q = 1 ∨ q = 2 then -1 else 0
def qy (q : Nat) : Int := if q = 2 ∨ q = 3 then -1 else 0
def lf (d : Nat) : Nat := (d + 1) % 4
def rt (d : Nat) : Nat := (d + 3) % 4
def bk (d : Nat) : Nat := (d + 2) % 4
/-- a corner, and the way by which it was come to -/
structure Cst where
  x : Int
  y : Int
  d : Nat
/-- the column at a corner -/
def col (A : Int → Int → Bool) (s : Cst) (q : Nat) : Bool := A (s.x + qx q) (s.y + qy q)
/-- the way on -/
def nxd (A : Int → Int → Bool) (s : Cst) : Nat := if col A s s.d = false then lf s.d else if col A s (rt s.d) = true then rt s.d else s.d
def nxt (A : Int → Int → Bool) (s : Cst) : Cst := ⟨s.x + wx (nxd A s), s.y + wy (nxd A s), nxd A s⟩
/-- a column above on the left of the unit behind, none on the right -/
structure Cok (A : Int → Int → Bool) (s : Cst) : Prop where
  d4 : s.d < 4
  l : col A s (lf s.d) = true
  r : col A s (bk s.d) = false
theorem d_cases {d : Nat} (h : d < 4) : d = 0 ∨ d = 1 ∨ d = 2 ∨ d = 3 := by omega
theorem nxd_cases {A : Int → Int → Bool} {s : Cst} (h : s.d < 4) : nxd A s < 4 := by
  unfold nxd lf rt
  split
  · omega
  · split <;> omega
/-- the column to the left of the unit that is gone, from its end -/
theorem col_left {A : Int → Int → Bool} {x y : Int} {d : Nat} (h : d < 4) : col A ⟨x + wx d, y + wy d, d⟩ (lf d) = A (x + qx d) (y + qy d) := by
  rcases d_cases h with rfl | rfl | rfl | rfl <;> simp [col, lf, wx, wy, qx, qy] <;> congr 1 <;> omega
theorem col_right {A : Int → Int → Bool} {x y : Int} {d : Nat} (h : d < 4) : col A ⟨x + wx d, y + wy d, d⟩ (bk d) = A (x + qx (rt d)) (y + qy (rt d)) := by
  rcases d_cases h with rfl | rfl | rfl | rfl <;> simp [col, bk, rt, wx, wy, qx, qy] <;> congr 1 <;> omega
theorem nxt_ok {A : Int → Int → Bool} {s : Cst} (h : Cok A s) : Cok A (nxt A s) := by
  have h4 := nxd_cases (A := A) h.d4
  refine ⟨h4, ?_, ?_⟩
  · show col A ⟨s.x + wx (nxd A s), s.y + wy (nxd A s), nxd A s⟩ (lf (nxd A s)) = true
    rw [col_left h4]
    show col A s (nxd A s) = true
    unfold nxd
    split
    · exact h.l
    · split
      · assumption
      · rename_i h1 _
        cases hc : col A s s.d
        · exact absurd hc h1
        · rfl
  · show col A ⟨s.x + wx (nxd A s), s.y + wy (nxd A s), nxd A s⟩ (bk (nxd A s)) = false
    rw [col_right h4]
    show col A s (rt (nxd A s)) = false
    unfold nxd
    have e1 : rt (lf s.d) = s.d := by unfold rt lf; have := h.d4; omega
    have e2 : rt (rt s.d) = bk s.d := by unfold rt bk; have := h.d4; omega
    split
    · rw [e1]; assumption
    · split
      · rw [e2]; exact h.r
      · rename_i _ h1
        cases hc : col A s (rt s.d)
        · rfl
        · exact absurd hc h1
theorem wxy_inj {d e : Nat} (hd : d < 4) (he : e < 4) (h1 : wx d = wx e) (h2 : wy d = wy e) : d = e := by
  rcases d_cases hd with rfl | rfl | rfl | rfl <;> rcases d_cases he with rfl | rfl | rfl | rfl <;> simp [wx, wy] at h1 h2 ⊢
theorem nxt_inj {A : Int → Int → Bool} {s t : Cst} (hs : Cok A s) (ht : Cok A t) (h : nxt A s = nxt A t) : s = t := by
  have hd : nxd A s = nxd A t := congrArg Cst.d h
  have hx : s.x + wx (nxd A s) = t.x + wx (nxd A t) := congrArg Cst.x h
  have hy : s.y + wy (nxd A s) = t.y + wy (nxd A t) := congrArg Cst.y h
  rw [hd] at hx hy
  have ex : s.x = t.x := by omega
  have ey : s.y = t.y := by omega
  obtain ⟨x, y, d⟩ := s
  obtain ⟨x', y', e⟩ := t
  simp only at ex ey
  subst ex ey
  have hcol : ∀ q, col A ⟨x, y, d⟩ q = col A ⟨x, y, e⟩ q := fun q => rfl
  obtain ⟨d4, l1, r1⟩ := hs
  obtain ⟨e4, l2, r2⟩ := ht
  unfold nxd at hd
  simp only [hcol] at hd l1 r1
  simp only at d4 e4 l1 r1 l2 r2 hd
  obtain ⟨c0, h0⟩ : ∃ c, col A ⟨x, y, e⟩ 0 = c := ⟨_, rfl⟩
  obtain ⟨c1, h1⟩ : ∃ c, col A ⟨x, y, e⟩ 1 = c := ⟨_, rfl⟩
  obtain ⟨c2, h2⟩ : ∃ c, col A ⟨x, y, e⟩ 2 = c := ⟨_, rfl⟩
  obtain ⟨c3, h3⟩ : ∃ c, col A ⟨x, y, e⟩ 3 = c := ⟨_, rfl⟩
  have key : d = e := by
    rcases d_cases d4 with rfl | rfl | rfl | rfl <;> rcases d_cases e4 with rfl | rfl | rfl | rfl <;> simp [lf, rt, bk, h0, h1, h2, h3] at l1 r1 l2 r2 hd ⊢ <;> subst l1 r1 <;> simp_all
  rw [key]
/-- within W + 1 by H + 1 corners -/
theorem cok_in {A : Int → Int → Bool} {W H : Nat} (hA : ∀ x y, A x y = true → 0 ≤ x ∧ x < (W : Int) ∧ 0 ≤ y ∧ y < (H : Int)) {s : Cst} (h : Cok A s) : 0 ≤ s.x ∧ s.x ≤ (W : Int) ∧ 0 ≤ s.y ∧ s.y ≤ (H : Int) := by
  have h1 := hA _ _ h.l
  have h4 := h.d4
  unfold lf at h1
  rcases d_cases h4 with e | e | e | e <;> rw [e] at h1 <;> simp [qx, qy] at h1 <;> omega
/-- the outline comes back -/
theorem outline_back {A : Int → Int → Bool} {W H : Nat} (hW : W ≤ 24) (hH : H ≤ 24) (hA : ∀ x y, A x y = true → 0 ≤ x ∧ x < (W : Int) ∧ 0 ≤ y ∧ y < (H : Int)) {s : Cst} (hs : Cok A s) : ∃ k, 1 ≤ k ∧ k ≤ 2500 ∧ itr (nxt A) s k = s := by
  refine comes_back (nxt A) (Cok A) (fun s => (s.x.toNat * 25 + s.y.toNat) * 4 + s.d) 2500 (fun a h => nxt_ok h) (fun a b h1 h2 h => nxt_inj h1 h2 h) (fun a b h1 h2 h => ?_) (fun a h => ?_) s hs
  · have i1 := cok_in hA h1
    have i2 := cok_in hA h2
    have d1 := h1.d4
    have d2 := h2.d4
    obtain ⟨x, y, d⟩ := a
    obtain ⟨x', y', e⟩ := b
    simp only at h i1 i2 d1 d2
    have e1 : x = x' := by omega
    have e2 : y = y' := by omega
    have e3 : d = e := by omega
    rw [e1, e2, e3]
  · have i1 := cok_in hA h
    have d1 := h.d4
    show (a.x.toNat * 25 + a.y.toNat) * 4 + a.d < 2500
    omega
end Go.Proofs.Ytjhldjojkaphkaa
