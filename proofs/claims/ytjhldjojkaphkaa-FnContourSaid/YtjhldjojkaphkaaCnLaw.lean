/-
  FnContour answers true at every two codes: along the whole of the program's outline of a drawn part at a drawn height a column above that height stands to the left, and none to the right; it is the model's outline, and goes round to the left in all.
-/
import Derived.Test.YtjhldjojkaphkaaCtLine
import Derived.Test.YtjhldjojkaphkaaTf3
import Derived.Test.YtjhldjojkaphkaaCtB
import Derived.Test.YtjhldjojkaphkaaPtRows
import Derived.Test.YtjhldjojkaphkaaEq46
import Derived.Test.YtjhldjojkaphkaaJobOf
import Derived.Test.YtjhldjojkaphkaaAtD
import Derived.Deep.LoopGhost
import Derived.Test.YtjhldjojkaphkaaChecked
import Derived.Test.YtjhldjojkaphkaaRows
import Derived.ShutString
import Derived.ChangeOld
namespace Go.Proofs.Ytjhldjojkaphkaa
set_option linter.unusedVariables false
set_option linter.unusedSimpArgs false

/-- a sum of n numbers -/
def smz (f : Nat → Int) : Nat → Int
  | 0 => 0
  | n + 1 => smz f n + f n
theorem smz_add (f g : Nat → Int) : ∀ n, smz (fun i => f i + g i) n = smz f n + smz g n
  | 0 => rfl
  | n + 1 => by
    show smz (fun i => f i + g i) n + (f n + g n) = (smz f n + f n) + (smz g n + g n)
    rw [smz_add f g n]; omega
theorem smz_sub (f g : Nat → Int) : ∀ n, smz (fun i => f i - g i) n = smz f n - smz g n
  | 0 => rfl
  | n + 1 => by
    show smz (fun i => f i - g i) n + (f n - g n) = (smz f n + f n) - (smz g n + g n)
    rw [smz_sub f g n]; omega
theorem smz_congr {f g : Nat → Int} : ∀ {n}, (∀ i, i < n → f i = g i) → smz f n = smz g n
  | 0, _ => rfl
  | n + 1, h => by
    show smz f n + f n = smz g n + g n
    rw [smz_congr (fun i hi => h i (by omega)), h n (by omega)]
theorem smz_zero : ∀ n, smz (fun _ => 0) n = 0
  | 0 => rfl
  | n + 1 => by show smz (fun _ => 0) n + 0 = 0; rw [smz_zero n]; rfl
theorem smz_tele (f : Nat → Int) : ∀ n, smz (fun i => f (i + 1) - f i) n = f n - f 0
  | 0 => by show (0 : Int) = f 0 - f 0; omega
  | n + 1 => by
    show smz (fun i => f (i + 1) - f i) n + (f (n + 1) - f n) = _
    rw [smz_tele f n]; omega
theorem smz_nn {f : Nat → Int} : ∀ {n}, (∀ i, i < n → 0 ≤ f i) → 0 ≤ smz f n
  | 0, _ => Int.le_refl _
  | n + 1, h => by
    have h1 := smz_nn (f := f) (n := n) (fun i hi => h i (by omega))
    have h2 := h n (by omega)
    show 0 ≤ smz f n + f n
    omega
theorem smz_one {f : Nat → Int} {k : Nat} : ∀ {n}, (∀ i, i < n → 0 ≤ f i) → k < n → f k ≤ smz f n
  | 0, _, hk => absurd hk (Nat.not_lt_zero _)
  | n + 1, h, hk => by
    show f k ≤ smz f n + f n
    by_cases e : k = n
    · have := smz_nn (f := f) (n := n) (fun i hi => h i (by omega))
      rw [e]; omega
    · have := smz_one (f := f) (k := k) (n := n) (fun i hi => h i (by omega)) (by omega)
      have := h n (by omega)
      omega
theorem smz_swap (a : Nat → Nat → Int) : ∀ n m, smz (fun i => smz (fun j => a i j) m) n = smz (fun j => smz (fun i => a i j) n) m
  | 0, m => by show (0 : Int) = smz (fun j => 0) m; rw [smz_zero]
  | n + 1, m => by
    show smz (fun i => smz (fun j => a i j) m) n + smz (fun j => a n j) m = smz (fun j => smz (fun i => a i j) n + a n j) m
    rw [smz_swap a n m, smz_add]
/-- at most one of them counts, and that by one less -/
theorem smz_neg {f : Nat → Int} : ∀ {n}, (∀ i, i < n → -1 ≤ f i ∧ f i ≤ 0) → (∀ i j, i < n → j < n → f i ≠ 0 → f j ≠ 0 → i = j) → -1 ≤ smz f n
  | 0, _, _ => by show (-1 : Int) ≤ 0; omega
  | n + 1, h, hu => by
    show -1 ≤ smz f n + f n
    by_cases e : f n = 0
    · have := smz_neg (f := f) (n := n) (fun i hi => h i (by omega)) (fun i j hi hj => hu i j (by omega) (by omega))
      omega
    · have h0 : smz f n = 0 := by
        rw [smz_congr (g := fun _ => 0) (fun i hi => ?_), smz_zero]
        by_cases e2 : f i = 0
        · exact e2
        · exact absurd (hu i n (by omega) (by omega) e2 e) (by omega)
      have := h n (by omega)
      omega
/-- a unit upward or downward in the row r, to the right of the column x -/
def vu (x r : Int) (px py : Int) (d : Nat) : Int := if d = 1 ∧ py = r ∧ x < px then 1 else if d = 3 ∧ py = r + 1 ∧ x < px then -1 else 0
/-- a unit along the lower side of the column x of the row r -/
def hu (x r : Int) (px py : Int) (d : Nat) : Int := if d = 0 ∧ py = r ∧ px = x then 1 else if d = 2 ∧ py = r ∧ px = x + 1 then -1 else 0
/-- a unit along the left side of that column -/
def lu (x r : Int) (px py : Int) (d : Nat) : Int := if d = 1 ∧ py = r ∧ px = x then 1 else if d = 3 ∧ py = r + 1 ∧ px = x then -1 else 0
def fi (x y px py : Int) : Int := if py = y ∧ x < px then 1 else 0
theorem flux (x y px py : Int) {d : Nat} (h : d < 4) : fi x y (px + wx d) (py + wy d) - fi x y px py = vu x (y - 1) px py d - vu x y px py d + hu x y px py d := by
  rcases d_cases h with rfl | rfl | rfl | rfl
  · simp [fi, vu, hu, wx, wy]
    repeat' split
    all_goals omega
  · simp [fi, vu, hu, wx, wy]
    repeat' split
    all_goals omega
  · simp [fi, vu, hu, wx, wy]
    repeat' split
    all_goals omega
  · simp [fi, vu, hu, wx, wy]
    repeat' split
    all_goals omega
theorem vu_left (x r px py : Int) (d : Nat) : vu (x - 1) r px py d - vu x r px py d = lu x r px py d := by
  unfold vu lu
  repeat' split
  all_goals omega
end Go.Proofs.Ytjhldjojkaphkaa

namespace Go.Proofs.Ytjhldjojkaphkaa
set_option linter.unusedVariables false
set_option linter.unusedSimpArgs false

/-- an outline that is whole -/
structure Orb (A : Int → Int → Bool) (W H x0 y0 : Nat) (s : Cst) (K : Nat) : Prop where
  inn : ∀ x y, A x y = true → 0 ≤ x ∧ x < (W : Int) ∧ 0 ≤ y ∧ y < (H : Int)
  low : ∀ x y, A x y = true → (y0 : Int) ≤ y
  ok : Cok A s
  sx : s.x = (x0 : Int)
  sy : s.y = (y0 : Int)
  ab : A (x0 : Int) (y0 : Int) = true
  go : nxd A s = 0
  one : 1 ≤ K
  bk : itr (nxt A) s K = s
  no : ∀ j, 1 ≤ j → j < K → ¬ ((itr (nxt A) s j).x = s.x ∧ (itr (nxt A) s j).y = s.y)
section
variable {A : Int → Int → Bool} {W H x0 y0 : Nat} {s : Cst} {K : Nat}
/-- the j-th unit's beginning and way -/
def ux (A : Int → Int → Bool) (s : Cst) (j : Nat) : Int := (itr (nxt A) s j).x
def uy (A : Int → Int → Bool) (s : Cst) (j : Nat) : Int := (itr (nxt A) s j).y
def ud (A : Int → Int → Bool) (s : Cst) (j : Nat) : Nat := nxd A (itr (nxt A) s j)
theorem u_next (A : Int → Int → Bool) (s : Cst) (j : Nat) : itr (nxt A) s (j + 1) = ⟨ux A s j + wx (ud A s j), uy A s j + wy (ud A s j), ud A s j⟩ := rfl
theorem Orb.d4 (o : Orb A W H x0 y0 s K) (j : Nat) : ud A s j < 4 := nxd_cases (itr_ok o.ok j).d4
theorem Orb.left (o : Orb A W H x0 y0 s K) (j : Nat) : A (ux A s j + qx (ud A s j)) (uy A s j + qy (ud A s j)) = true := by
  have h := (itr_ok o.ok (j + 1)).l
  rw [u_next] at h
  exact (col_left (o.d4 j)).symm.trans h
theorem Orb.right (o : Orb A W H x0 y0 s K) (j : Nat) : A (ux A s j + qx (rt (ud A s j))) (uy A s j + qy (rt (ud A s j))) = false := by
  have h := (itr_ok o.ok (j + 1)).r
  rw [u_next] at h
  exact (col_right (o.d4 j)).symm.trans h
/-- no two of its units are one -/
theorem Orb.uniq (o : Orb A W H x0 y0 s K) {i j : Nat} (hi : i < K) (hj : j < K) (hx : ux A s i = ux A s j) (hy : uy A s i = uy A s j) (hd : ud A s i = ud A s j) : i = j := by
  have key : ∀ a b, a < b → b ≤ K → 1 ≤ a → itr (nxt A) s a = itr (nxt A) s b → False := by
    intro a b hab hb ha he
    have back : ∀ d, d ≤ a → itr (nxt A) s (a - d) = itr (nxt A) s (b - d) := by
      intro d
      induction d with
      | zero => intro _; exact he
      | succ d ih =>
        intro hd
        have h1 := ih (by omega)
        rw [show a - d = (a - (d + 1)) + 1 by omega, show b - d = (b - (d + 1)) + 1 by omega] at h1
        exact nxt_inj (itr_ok o.ok _) (itr_ok o.ok _) h1
    have h0 := back a (Nat.le_refl _)
    rw [Nat.sub_self] at h0
    refine o.no (b - a) (by omega) (by omega) ?_
    rw [← h0]
    exact ⟨rfl, rfl⟩
  have e : itr (nxt A) s (i + 1) = itr (nxt A) s (j + 1) := by rw [u_next, u_next, hx, hy, hd]
  rcases Nat.lt_trichotomy i j with h | h | h
  · exact (key (i + 1) (j + 1) (by omega) (by omega) (by omega) e).elim
  · exact h
  · exact (key (j + 1) (i + 1) (by omega) (by omega) (by omega) e.symm).elim
/-- how often it goes round a column -/
def Fw (A : Int → Int → Bool) (s : Cst) (K : Nat) (x r : Int) : Int := smz (fun j => vu x r (ux A s j) (uy A s j) (ud A s j)) K
theorem Orb.vert (o : Orb A W H x0 y0 s K) (x y : Int) : Fw A s K x y - Fw A s K x (y - 1) = smz (fun j => hu x y (ux A s j) (uy A s j) (ud A s j)) K := by
  have h1 := smz_tele (fun j => fi x y (ux A s j) (uy A s j)) K
  have e0 : fi x y (ux A s K) (uy A s K) = fi x y (ux A s 0) (uy A s 0) := by
    unfold ux uy
    rw [o.bk]
    rfl
  have h2 := smz_congr (f := fun i => fi x y (ux A s (i + 1)) (uy A s (i + 1)) - fi x y (ux A s i) (uy A s i)) (g := fun j => (vu x (y - 1) (ux A s j) (uy A s j) (ud A s j) - vu x y (ux A s j) (uy A s j) (ud A s j)) + hu x y (ux A s j) (uy A s j) (ud A s j)) (n := K) (fun j _ => flux x y (ux A s j) (uy A s j) (o.d4 j))
  rw [h2, smz_add, smz_sub] at h1
  unfold Fw
  omega
theorem Orb.hori (o : Orb A W H x0 y0 s K) (x r : Int) : Fw A s K (x - 1) r - Fw A s K x r = smz (fun j => lu x r (ux A s j) (uy A s j) (ud A s j)) K := by
  unfold Fw
  rw [← smz_sub]
  exact smz_congr (fun j _ => vu_left x r _ _ _)
/-- the columns on both sides of a unit -/
structure Uc (A : Int → Int → Bool) (px py : Int) (d : Nat) : Prop where
  c0 : d = 0 → A px py = true ∧ A px (py - 1) = false
  c1 : d = 1 → A (px - 1) py = true ∧ A px py = false
  c2 : d = 2 → A (px - 1) (py - 1) = true ∧ A (px - 1) py = false
  c3 : d = 3 → A px (py - 1) = true ∧ A (px - 1) (py - 1) = false
theorem Orb.uc (o : Orb A W H x0 y0 s K) (j : Nat) : Uc A (ux A s j) (uy A s j) (ud A s j) := by
  have hl := o.left j
  have hr := o.right j
  generalize ux A s j = px at *
  generalize uy A s j = py at *
  generalize ud A s j = d at *
  refine ⟨?_, ?_, ?_, ?_⟩ <;> rintro rfl <;> simp [qx, qy, rt] at hl hr <;> simp only [Int.sub_eq_add_neg] <;> exact ⟨hl, hr⟩
theorem hu_no {x y px py : Int} {d : Nat} (u : Uc A px py d) (h : A x y = A x (y - 1)) : hu x y px py d = 0 := by
  unfold hu
  split
  · rename_i h1
    obtain ⟨h1, rfl, rfl⟩ := h1
    have := u.c0 h1
    rw [this.1, this.2] at h
    cases h
  · split
    · rename_i h1
      obtain ⟨h1, rfl, rfl⟩ := h1
      have := u.c2 h1
      rw [show x + 1 - 1 = x by omega] at this
      rw [this.1, this.2] at h
      cases h
    · rfl
theorem lu_no {x r px py : Int} {d : Nat} (u : Uc A px py d) (h : A x r = A (x - 1) r) : lu x r px py d = 0 := by
  unfold lu
  split
  · rename_i h1
    obtain ⟨h1, rfl, rfl⟩ := h1
    have := u.c1 h1
    rw [this.1, this.2] at h
    cases h
  · split
    · rename_i h1
      obtain ⟨h1, rfl, rfl⟩ := h1
      have := u.c3 h1
      rw [show r + 1 - 1 = r by omega] at this
      rw [this.1, this.2] at h
      cases h
    · rfl
theorem Orb.vsame (o : Orb A W H x0 y0 s K) {x y : Int} (h : A x y = A x (y - 1)) : Fw A s K x y = Fw A s K x (y - 1) := by
  have h1 := o.vert x y
  rw [smz_congr (g := fun _ => 0) (fun j _ => hu_no (o.uc j) h), smz_zero] at h1
  omega
theorem Orb.hsame (o : Orb A W H x0 y0 s K) {x r : Int} (h : A x r = A (x - 1) r) : Fw A s K x r = Fw A s K (x - 1) r := by
  have h1 := o.hori x r
  rw [smz_congr (g := fun _ => 0) (fun j _ => lu_no (o.uc j) h), smz_zero] at h1
  omega
/-- two columns above that lie side by side at a corner -/
theorem Orb.adj (o : Orb A W H x0 y0 s K) (x y : Int) {q : Nat} (hq : q < 4) (h1 : A (x + qx q) (y + qy q) = true) (h2 : A (x + qx (lf q)) (y + qy (lf q)) = true) : Fw A s K (x + qx q) (y + qy q) = Fw A s K (x + qx (lf q)) (y + qy (lf q)) := by
  rcases d_cases hq with rfl | rfl | rfl | rfl
  · simp [qx, qy, lf] at h1 h2 ⊢
    rw [show x + -1 = x - 1 by omega] at h2 ⊢
    exact o.hsame (by rw [h1, h2])
  · simp [qx, qy, lf] at h1 h2 ⊢
    rw [show y + -1 = y - 1 by omega] at h2 ⊢
    exact o.vsame (by rw [h1, h2])
  · simp [qx, qy, lf] at h1 h2 ⊢
    rw [show x + -1 = x - 1 by omega] at h1 ⊢
    exact (o.hsame (by rw [h1, h2])).symm
  · simp [qx, qy, lf] at h1 h2 ⊢
    rw [show y + -1 = y - 1 by omega] at h1 ⊢
    exact (o.vsame (by rw [h1, h2])).symm
/-- all columns on its left are gone round as often -/
theorem Orb.lefts (o : Orb A W H x0 y0 s K) : ∀ j, Fw A s K (ux A s j + qx (ud A s j)) (uy A s j + qy (ud A s j)) = Fw A s K (x0 : Int) (y0 : Int)
  | 0 => by
    show Fw A s K (s.x + qx (nxd A s)) (s.y + qy (nxd A s)) = _
    rw [o.go, o.sx, o.sy]
    simp [qx, qy]
  | j + 1 => by
    rw [← Orb.lefts o j]
    have hn := u_next A s j
    have e1 : ux A s (j + 1) = ux A s j + wx (ud A s j) := rfl
    have e2 : uy A s (j + 1) = uy A s j + wy (ud A s j) := rfl
    have hc := itr_ok o.ok (j + 1)
    have hl : col A (itr (nxt A) s (j + 1)) (lf (ud A s j)) = true := hc.l
    have hd := o.d4 j
    -- the left column behind, seen from the corner
    have eL : ∀ {d : Nat}, d < 4 → ∀ px py : Int, px + wx d + qx (lf d) = px + qx d ∧ py + wy d + qy (lf d) = py + qy d := by
      intro d h px py
      rcases d_cases h with rfl | rfl | rfl | rfl <;> simp [wx, wy, qx, qy, lf] <;> omega
    obtain ⟨a1, a2⟩ := eL hd (ux A s j) (uy A s j)
    rw [← e1] at a1
    rw [← e2] at a2
    rw [← a1, ← a2]
    have hl' : A (ux A s (j + 1) + qx (lf (ud A s j))) (uy A s (j + 1) + qy (lf (ud A s j))) = true := hl
    have hd2 : ud A s (j + 1) = if col A (itr (nxt A) s (j + 1)) (ud A s j) = false then lf (ud A s j) else if col A (itr (nxt A) s (j + 1)) (rt (ud A s j)) = true then rt (ud A s j) else ud A s j := rfl
    rw [hd2]
    split
    · rfl
    · rename_i h1
      have h1' : A (ux A s (j + 1) + qx (ud A s j)) (uy A s (j + 1) + qy (ud A s j)) = true := by
        cases hh : col A (itr (nxt A) s (j + 1)) (ud A s j)
        · exact absurd hh h1
        · exact hh
      have hA := o.adj (ux A s (j + 1)) (uy A s (j + 1)) hd h1' hl'
      split
      · rename_i h2
        have e3 : lf (rt (ud A s j)) = ud A s j := by unfold lf rt; omega
        have hB := o.adj (ux A s (j + 1)) (uy A s (j + 1)) (q := rt (ud A s j)) (by unfold rt; omega) h2 (by rw [e3]; exact h1')
        rw [e3] at hB
        exact hB.trans hA
      · exact hA
theorem Orb.pos (o : Orb A W H x0 y0 s K) : 1 ≤ Fw A s K (x0 : Int) (y0 : Int) := by
  have h1 := o.vert (x0 : Int) (y0 : Int)
  have h0 : Fw A s K (x0 : Int) ((y0 : Int) - 1) = 0 := by
    unfold Fw
    rw [smz_congr (g := fun _ => 0) (fun j _ => ?_), smz_zero]
    have u := o.uc j
    unfold vu
    split
    · rename_i h
      obtain ⟨h, hy, _⟩ := h
      have := o.low _ _ (u.c1 h).1
      omega
    · split
      · rename_i h
        obtain ⟨h, hy, _⟩ := h
        have := o.low _ _ (u.c3 h).1
        omega
      · rfl
  have h2 : (1 : Int) ≤ smz (fun j => hu (x0 : Int) (y0 : Int) (ux A s j) (uy A s j) (ud A s j)) K := by
    refine Int.le_trans (Int.le_of_eq ?_) (smz_one (k := 0) (fun j _ => ?_) (show 0 < K from o.one))
    · show (1 : Int) = hu (x0 : Int) (y0 : Int) s.x s.y (nxd A s)
      rw [o.go, o.sx, o.sy]
      simp [hu]
    · have u := o.uc j
      unfold hu
      split
      · omega
      · split
        · rename_i h
          obtain ⟨h, hy, hx⟩ := h
          have h3 := (u.c2 h).2
          rw [hx, hy, show (x0 : Int) + 1 - 1 = (x0 : Int) by omega, o.ab] at h3
          cases h3
        · omega
  omega
end
end Go.Proofs.Ytjhldjojkaphkaa

namespace Go.Proofs.Ytjhldjojkaphkaa
set_option linter.unusedVariables false
set_option linter.unusedSimpArgs false

section
variable {A : Int → Int → Bool} {W H x0 y0 : Nat} {s : Cst} {K : Nat}
theorem Orb.in_ (o : Orb A W H x0 y0 s K) (j : Nat) : 0 ≤ ux A s j ∧ ux A s j ≤ (W : Int) ∧ 0 ≤ uy A s j ∧ uy A s j ≤ (H : Int) := cok_in o.inn (itr_ok o.ok j)
/-- beyond the field it goes round nothing -/
theorem Orb.far (o : Orb A W H x0 y0 s K) (r : Int) {x : Int} (hx : (W : Int) ≤ x) : Fw A s K x r = 0 := by
  unfold Fw
  rw [smz_congr (g := fun _ => 0) (fun j _ => ?_), smz_zero]
  have h := o.in_ j
  unfold vu
  split
  · omega
  · split
    · omega
    · rfl
/-- it goes round no column the other way -/
theorem Orb.nn (o : Orb A W H x0 y0 s K) (r : Int) : ∀ (n : Nat) (x : Int), (W : Int) - x ≤ (n : Int) → 0 ≤ Fw A s K x r
  | 0, x, hx => by rw [o.far r (by omega)]; exact Int.le_refl _
  | n + 1, x, hx => by
    have ih := Orb.nn o r n (x + 1) (by omega)
    have hh := o.hori (x + 1) r
    rw [show x + 1 - 1 = x by omega] at hh
    by_cases hz : ∀ j, j < K → lu (x + 1) r (ux A s j) (uy A s j) (ud A s j) = 0
    · rw [smz_congr (g := fun _ => 0) hz, smz_zero] at hh
      omega
    · have hcases : (∃ j, j < K ∧ ud A s j = 1 ∧ uy A s j = r ∧ ux A s j = x + 1) ∨ (∃ j, j < K ∧ ud A s j = 3 ∧ uy A s j = r + 1 ∧ ux A s j = x + 1) := by
        by_cases h1 : ∃ j, j < K ∧ ud A s j = 1 ∧ uy A s j = r ∧ ux A s j = x + 1
        · exact .inl h1
        · by_cases h2 : ∃ j, j < K ∧ ud A s j = 3 ∧ uy A s j = r + 1 ∧ ux A s j = x + 1
          · exact .inr h2
          · exfalso
            apply hz
            intro j hj
            unfold lu
            rw [if_neg (fun h => h1 ⟨j, hj, h.1, h.2.1, h.2.2⟩), if_neg (fun h => h2 ⟨j, hj, h.1, h.2.1, h.2.2⟩)]
      rcases hcases with ⟨j, hj, hd, hy, hx'⟩ | ⟨j, hj, hd, hy, hx'⟩
      · have hl := o.lefts j
        have hp := o.pos
        rw [hd, hy, hx'] at hl
        simp [qx, qy] at hl
        rw [show x + 1 + -1 = x by omega] at hl
        omega
      · have hl := o.lefts j
        have hp := o.pos
        have huc := (o.uc j).c3 hd
        rw [hd, hy, hx'] at hl
        simp [qx, qy] at hl
        rw [show r + 1 + -1 = r by omega] at hl
        rw [hy, hx', show r + 1 - 1 = r by omega, show x + 1 - 1 = x by omega] at huc
        have hneg : -1 ≤ smz (fun j => lu (x + 1) r (ux A s j) (uy A s j) (ud A s j)) K := by
          refine smz_neg (fun i hi => ?_) (fun i k hi hk h1 h2 => ?_)
          · unfold lu
            split
            · rename_i h
              obtain ⟨h, h3, h4⟩ := h
              have := ((o.uc i).c1 h).2
              rw [h3, h4, huc.1] at this
              cases this
            · split <;> omega
          · have side : ∀ m, lu (x + 1) r (ux A s m) (uy A s m) (ud A s m) ≠ 0 → ud A s m = 3 ∧ uy A s m = r + 1 ∧ ux A s m = x + 1 := by
              intro m hm
              unfold lu at hm
              split at hm
              · rename_i h
                obtain ⟨h, h3, h4⟩ := h
                have := ((o.uc m).c1 h).2
                rw [h3, h4, huc.1] at this
                cases this
              · split at hm
                · assumption
                · exact absurd rfl hm
            have a := side i h1
            have b := side k h2
            exact o.uniq hi hk (by rw [a.2.2, b.2.2]) (by rw [a.2.1, b.2.1]) (by rw [a.1, b.1])
        omega
theorem smz_lt (p : Int) : ∀ n : Nat, smz (fun x => if (x : Int) < p then (1 : Int) else 0) n = if p ≤ 0 then 0 else if p ≤ (n : Int) then p else (n : Int)
  | 0 => by show (0 : Int) = _; split; rfl; split <;> omega
  | n + 1 => by
    show smz (fun x => if (x : Int) < p then (1 : Int) else 0) n + (if ((n : Nat) : Int) < p then (1 : Int) else 0) = _
    rw [smz_lt p n]
    repeat' split
    all_goals omega
theorem smz_mul (c : Int) (f : Nat → Int) : ∀ n, smz (fun i => c * f i) n = c * smz f n
  | 0 => by show (0 : Int) = c * 0; rw [Int.mul_zero]
  | n + 1 => by
    show smz (fun i => c * f i) n + c * f n = c * (smz f n + f n)
    rw [smz_mul c f n, Int.mul_add]
theorem smz_at (v a : Int) : ∀ n : Nat, smz (fun r => if (r : Int) = a then v else 0) n = if 0 ≤ a ∧ a < (n : Int) then v else 0
  | 0 => by show (0 : Int) = _; rw [if_neg (by omega)]
  | n + 1 => by
    show smz (fun r => if (r : Int) = a then v else 0) n + (if ((n : Nat) : Int) = a then v else 0) = _
    rw [smz_at v a n]
    repeat' split
    all_goals omega
/-- a unit's share of the area, summed over the columns -/
theorem vu_row (r px py : Int) (d : Nat) (h1 : 0 ≤ px) (h2 : px ≤ (W : Int)) : smz (fun x => vu (x : Int) r px py d) W = if d = 1 ∧ py = r then px else if d = 3 ∧ py = r + 1 then -px else 0 := by
  by_cases a : d = 1 ∧ py = r
  · rw [if_pos a, smz_congr (g := fun x => if (x : Int) < px then (1 : Int) else 0) (fun x _ => ?_), smz_lt]
    · repeat' split
      all_goals omega
    · unfold vu
      repeat' split
      all_goals omega
  · rw [if_neg a]
    by_cases b : d = 3 ∧ py = r + 1
    · rw [if_pos b, smz_congr (g := fun x => (-1) * (if (x : Int) < px then (1 : Int) else 0)) (fun x _ => ?_), smz_mul, smz_lt]
      · repeat' split
        all_goals omega
      · unfold vu
        repeat' split
        all_goals omega
    · rw [if_neg b, smz_congr (g := fun _ => 0) (fun x _ => ?_), smz_zero]
      unfold vu
      repeat' split
      all_goals omega
theorem vu_all (px py : Int) (d : Nat) (hd : d < 4) (h1 : 0 ≤ px) (h2 : px ≤ (W : Int)) (h3 : 0 ≤ py) (h4 : py ≤ (H : Int)) (h5 : 0 ≤ py + wy d) (h6 : py + wy d ≤ (H : Int)) : smz (fun r => smz (fun x => vu (x : Int) (r : Int) px py d) W) H = px * wy d := by
  rw [smz_congr (fun r _ => vu_row (W := W) (r : Int) px py d h1 h2)]
  rcases d_cases hd with rfl | rfl | rfl | rfl
  · rw [smz_congr (g := fun _ => 0) (fun r _ => by simp), smz_zero]
    simp [wy]
  · rw [smz_congr (g := fun r => if (r : Int) = py then px else 0) (fun r _ => by simp [eq_comm]), smz_at]
    simp [wy] at h5 h6 ⊢
    omega
  · rw [smz_congr (g := fun _ => 0) (fun r _ => by simp), smz_zero]
    simp [wy]
  · rw [smz_congr (g := fun r => if (r : Int) = py - 1 then -px else 0) (fun r _ => ?_), smz_at]
    · simp [wy] at h5 h6 ⊢
      omega
    · simp
      repeat' split
      all_goals omega
/-- twice the area, summed along the first n units -/
def crs2 (A : Int → Int → Bool) (s : Cst) (n : Nat) : Int := smz (fun j => ux A s j * uy A s (j + 1) - uy A s j * ux A s (j + 1)) n
theorem Orb.area (o : Orb A W H x0 y0 s K) : 0 < crs2 A s K := by
  have hin := fun j => o.in_ j
  have hS : smz (fun j => ux A s j * wy (ud A s j)) K = smz (fun r => smz (fun x => Fw A s K (x : Int) (r : Int)) W) H := by
    have e1 : smz (fun j => ux A s j * wy (ud A s j)) K = smz (fun j => smz (fun r => smz (fun x => vu (x : Int) (r : Int) (ux A s j) (uy A s j) (ud A s j)) W) H) K :=
      smz_congr (fun j _ => (vu_all (W := W) (H := H) _ _ _ (o.d4 j) (hin j).1 (hin j).2.1 (hin j).2.2.1 (hin j).2.2.2 (hin (j + 1)).2.2.1 (hin (j + 1)).2.2.2).symm)
    rw [e1, smz_swap]
    refine smz_congr (fun r _ => ?_)
    rw [smz_swap]
    rfl
  have hpos : 0 < smz (fun r => smz (fun x => Fw A s K (x : Int) (r : Int)) W) H := by
    have hi := o.inn _ _ o.ab
    have h1 := o.pos
    have h2 : Fw A s K (x0 : Int) (y0 : Int) ≤ smz (fun x => Fw A s K (x : Int) (y0 : Int)) W := smz_one (f := fun x => Fw A s K (x : Int) (y0 : Int)) (k := x0) (fun i _ => o.nn _ W _ (by omega)) (by omega)
    have h3 : smz (fun x => Fw A s K (x : Int) (y0 : Int)) W ≤ smz (fun r => smz (fun x => Fw A s K (x : Int) (r : Int)) W) H := smz_one (f := fun r => smz (fun x => Fw A s K (x : Int) (r : Int)) W) (k := y0) (fun r _ => smz_nn (fun i _ => o.nn _ W _ (by omega))) (by omega)
    omega
  have ht := smz_tele (fun j => ux A s j * uy A s j) K
  have e0 : ux A s K * uy A s K = ux A s 0 * uy A s 0 := by
    unfold ux uy
    rw [o.bk]
    rfl
  have hw : ∀ d : Nat, wx d * wy d = 0 := by
    intro d
    unfold wx wy
    repeat' split
    all_goals simp_all
  have hsum : smz (fun j => ux A s j * wy (ud A s j)) K + smz (fun j => uy A s j * wx (ud A s j)) K = 0 := by
    rw [← smz_add, ← smz_congr (f := fun i => ux A s (i + 1) * uy A s (i + 1) - ux A s i * uy A s i) (fun j _ => ?_), ht]
    · omega
    · show (ux A s j + wx (ud A s j)) * (uy A s j + wy (ud A s j)) - ux A s j * uy A s j = _
      have := hw (ud A s j)
      grind
  have hdif : crs2 A s K = smz (fun j => ux A s j * wy (ud A s j)) K - smz (fun j => uy A s j * wx (ud A s j)) K := by
    unfold crs2
    rw [← smz_sub]
    refine smz_congr (fun j _ => ?_)
    show ux A s j * (uy A s j + wy (ud A s j)) - uy A s j * (ux A s j + wx (ud A s j)) = _
    grind
  omega
end
end Go.Proofs.Ytjhldjojkaphkaa

namespace Go.Proofs.Ytjhldjojkaphkaa
set_option linter.unusedVariables false
set_option linter.unusedSimpArgs false

theorem Orb.of {W H : Nat} {T : List Int} {z : Int} {x y K : Nat} (hf : Fst W H T z x y) (hK : Bck (Ab W H T z) ⟨(x : Int), (y : Int), 3⟩ K) : Orb (Ab W H T z) W H x y ⟨(x : Int), (y : Int), 3⟩ K := by
  have hx := hf.hx
  have hy := hf.hy
  have hlow : ∀ a b, Ab W H T z a b = true → (y : Int) ≤ b := by
    intro a b h
    have hi := Ab_in a b h
    obtain ⟨u, rfl⟩ := Int.eq_ofNat_of_zero_le hi.1
    obtain ⟨v, rfl⟩ := Int.eq_ofNat_of_zero_le hi.2.2.1
    rw [Ab_at (by omega) (by omega)] at h
    have h1 := of_decide_eq_true h
    by_cases hc : v < y
    · exfalso
      refine hf.no u v (by omega) (by omega) ?_ h1
      have h2 : (v + 1) * W ≤ y * W := Nat.mul_le_mul_right W hc
      rw [Nat.add_mul, Nat.one_mul] at h2
      omega
    · omega
  have hok := hf.ok
  refine ⟨Ab_in, hlow, hok.1, rfl, rfl, ?_, hok.2, hK.one, ?_, hK.no⟩
  · rw [Ab_at hx hy]
    exact decide_eq_true hf.ab
  · have hc := itr_ok hok.1 K
    have ha := hK.at'
    generalize itr (nxt (Ab W H T z)) ⟨(x : Int), (y : Int), 3⟩ K = s at *
    obtain ⟨a, b, d⟩ := s
    have e1 : a = (x : Int) := ha.1
    have e2 : b = (y : Int) := ha.2
    subst e1 e2
    have hl := hc.l
    have h4 : d < 4 := hc.d4
    have c0 := hok.1.l
    have c1 := hok.1.r
    have h3 : d = 3 := by
      rcases d_cases h4 with rfl | rfl | rfl | rfl
      · exfalso
        have : col (Ab W H T z) ⟨(x : Int), (y : Int), 3⟩ (Go.Proofs.Ytjhldjojkaphkaa.bk 3) = true := hl
        rw [c1] at this
        cases this
      · exfalso
        have h5 := hlow _ _ (show Ab W H T z ((x : Int) + qx (lf 1)) ((y : Int) + qy (lf 1)) = true from hl)
        simp [lf, qy] at h5
        omega
      · exfalso
        have h5 := hlow _ _ (show Ab W H T z ((x : Int) + qx (lf 2)) ((y : Int) + qy (lf 2)) = true from hl)
        simp [lf, qy] at h5
        omega
      · rfl
    rw [h3]
section
variable {A : Int → Int → Bool} {W H x0 y0 : Nat} {s : Cst} {K : Nat}
theorem Orb.turn0 (o : Orb A W H x0 y0 s K) (h3 : s.d = 3) : nxd A (itr (nxt A) s 0) ≠ (itr (nxt A) s 0).d := by
  show nxd A s ≠ s.d
  rw [o.go, h3]
  decide
/-- the straight way from a corner to the next one -/
structure Leg (A : Int → Int → Bool) (s : Cst) (K N i j m e : Nat) (px py : Int) : Prop where
  m1 : 1 ≤ m
  le : j + m ≤ K
  e4 : e < 4
  on : ∀ t, t ≤ m → ux A s (j + t) = px + (t : Int) * wx e ∧ uy A s (j + t) = py + (t : Int) * wy e
  dir : ∀ t, t < m → ud A s (j + t) = e
  cnt : ctn A s (j + m) = i + 1
  fin : (j + m = K ∧ i + 1 = N) ∨ (j + m < K ∧ i + 1 < N ∧ nxd A (itr (nxt A) s (j + m)) ≠ (itr (nxt A) s (j + m)).d)
theorem Orb.leg (o : Orb A W H x0 y0 s K) {j : Nat} (hj : j < K) (ht : nxd A (itr (nxt A) s j) ≠ (itr (nxt A) s j).d) : ∃ m, Leg A s K (ctn A s K) (ctn A s j) j m (ud A s j) (ux A s j) (uy A s j) := by
  have c1 : ctn A s (j + 1) = ctn A s j + 1 := by
    show ctn A s j + _ = _
    rw [if_neg ht]
  -- so far as it goes straight on
  have step : ∀ t, 1 ≤ t → j + t ≤ K → (∀ k, 1 ≤ k → k < t → nxd A (itr (nxt A) s (j + k)) = (itr (nxt A) s (j + k)).d) → (∀ k, k ≤ t → ux A s (j + k) = ux A s j + (k : Int) * wx (ud A s j) ∧ uy A s (j + k) = uy A s j + (k : Int) * wy (ud A s j)) ∧ (∀ k, k < t → ud A s (j + k) = ud A s j) ∧ ctn A s (j + t) = ctn A s j + 1 := by
    intro t
    induction t with
    | zero => intro h; omega
    | succ t ih =>
      intro _ hK hs
      by_cases h0 : t = 0
      · subst h0
        refine ⟨fun k hk => ?_, fun k hk => ?_, c1⟩
        · have : k = 0 ∨ k = 1 := by omega
          rcases this with rfl | rfl
          · simp
          · refine ⟨?_, ?_⟩
            · show ux A s j + wx (ud A s j) = _
              simp
            · show uy A s j + wy (ud A s j) = _
              simp
        · have : k = 0 := by omega
          subst this
          rfl
      · obtain ⟨a1, a2, a3⟩ := ih (by omega) (by omega) (fun k h1 h2 => hs k h1 (by omega))
        have hd : ud A s (j + t) = ud A s j := by
          have h1 := hs t (by omega) (by omega)
          have h2 := a2 (t - 1) (by omega)
          show nxd A (itr (nxt A) s (j + t)) = _
          rw [h1, show j + t = (j + (t - 1)) + 1 by omega, u_next]
          exact h2
        refine ⟨fun k hk => ?_, fun k hk => ?_, ?_⟩
        · by_cases hkt : k ≤ t
          · exact a1 k hkt
          · have : k = t + 1 := by omega
            subst this
            obtain ⟨b1, b2⟩ := a1 t (Nat.le_refl _)
            refine ⟨?_, ?_⟩
            · show ux A s (j + t) + wx (ud A s (j + t)) = _
              rw [b1, hd, Int.natCast_add, Int.add_mul]
              omega
            · show uy A s (j + t) + wy (ud A s (j + t)) = _
              rw [b2, hd, Int.natCast_add, Int.add_mul]
              omega
        · by_cases hkt : k < t
          · exact a2 k hkt
          · have : k = t := by omega
            subst this
            exact hd
        · show ctn A s (j + t) + (if nxd A (itr (nxt A) s (j + t)) = (itr (nxt A) s (j + t)).d then 0 else 1) = _
          rw [if_pos (hs t (by omega) (by omega)), a3]
  -- the first turn behind it, or the end
  obtain ⟨m, hm, ⟨hm1, hmp⟩, hmin⟩ := least_of (p := fun t => 1 ≤ t ∧ (j + t = K ∨ (j + t < K ∧ nxd A (itr (nxt A) s (j + t)) ≠ (itr (nxt A) s (j + t)).d))) (K - j) ⟨by omega, .inl (by omega)⟩
  have hle : j + m ≤ K := by omega
  obtain ⟨a1, a2, a3⟩ := step m hm1 hle (fun k h1 h2 => by
    by_cases hc : nxd A (itr (nxt A) s (j + k)) = (itr (nxt A) s (j + k)).d
    · exact hc
    · exact absurd ⟨h1, .inr ⟨by omega, hc⟩⟩ (hmin k h2))
  refine ⟨m, hm1, hle, o.d4 j, a1, a2, a3, ?_⟩
  rcases hmp with h | ⟨h, hn⟩
  · exact .inl ⟨h, by rw [← a3, h]⟩
  · refine .inr ⟨h, ?_, hn⟩
    have h5 := (cor_at (K := K) h (show itr (nxt A) s (j + m) = ⟨(itr (nxt A) s (j + m)).x, (itr (nxt A) s (j + m)).y, (itr (nxt A) s (j + m)).d⟩ from rfl) hn).2.1
    rw [a3] at h5
    exact h5
/-- twice the area along a straight way -/
theorem Leg.area {N i j m e : Nat} {px py : Int} (l : Leg A s K N i j m e px py) : crs2 A s (j + m) = crs2 A s j + (px * (py + (m : Int) * wy e) - py * (px + (m : Int) * wx e)) := by
  have h : ∀ t, t ≤ m → crs2 A s (j + t) = crs2 A s j + (t : Int) * (px * wy e - py * wx e) := by
    intro t
    induction t with
    | zero => intro _; simp
    | succ t ih =>
      intro ht
      have h1 := ih (by omega)
      obtain ⟨a1, a2⟩ := l.on t (by omega)
      obtain ⟨b1, b2⟩ := l.on (t + 1) ht
      show crs2 A s (j + t) + (ux A s (j + t) * uy A s (j + t + 1) - uy A s (j + t) * ux A s (j + t + 1)) = _
      rw [h1, a1, a2, show j + t + 1 = j + (t + 1) by omega, b1, b2, Int.natCast_add]
      grind
  rw [h m (Nat.le_refl _)]
  grind
theorem Orb.small (o : Orb A W H x0 y0 s K) (hW : W ≤ 24) (hH : H ≤ 24) : ∀ n : Nat, -(1152 * (n : Int)) ≤ crs2 A s n ∧ crs2 A s n ≤ 1152 * (n : Int)
  | 0 => ⟨by show _ ≤ (0 : Int); omega, by show (0 : Int) ≤ _; omega⟩
  | n + 1 => by
    have ih := Orb.small o hW hH n
    have a := o.in_ n
    have b := o.in_ (n + 1)
    have p1 : 0 ≤ ux A s n * uy A s (n + 1) := Int.mul_nonneg a.1 b.2.2.1
    have p2 : ux A s n * uy A s (n + 1) ≤ 24 * 24 := Int.mul_le_mul (by omega) (by omega) b.2.2.1 (by omega)
    have p3 : 0 ≤ uy A s n * ux A s (n + 1) := Int.mul_nonneg a.2.2.1 b.1
    have p4 : uy A s n * ux A s (n + 1) ≤ 24 * 24 := Int.mul_le_mul (by omega) (by omega) b.1 (by omega)
    show -(1152 * ((n + 1 : Nat) : Int)) ≤ crs2 A s n + (ux A s n * uy A s (n + 1) - uy A s n * ux A s (n + 1)) ∧ crs2 A s n + (ux A s n * uy A s (n + 1) - uy A s n * ux A s (n + 1)) ≤ _
    omega
end
end Go.Proofs.Ytjhldjojkaphkaa

namespace Go.Proofs.Ytjhldjojkaphkaa
set_option linter.unusedVariables false
set_option linter.unusedSimpArgs false

theorem cor_inj {cs : List Int} {k : Nat} {a b : Int} (h : cor cs k = #[.agg #[.int .i64 a, .int .i64 b]]) : gt cs (k * 2) = a ∧ gt cs (k * 2 + 1) = b := by
  unfold cor at h
  simpa using h
section
variable {A : Int → Int → Bool} {W H x0 y0 : Nat} {s : Cst} {K : Nat}
theorem corner_at {j : Nat} (hj : j < K) (ht : nxd A (itr (nxt A) s j) ≠ (itr (nxt A) s j).d) : gt (crn A s K) (ctn A s j * 2) = ux A s j ∧ gt (crn A s K) (ctn A s j * 2 + 1) = uy A s j :=
  cor_inj (cor_at (K := K) hj (show itr (nxt A) s j = ⟨ux A s j, uy A s j, (itr (nxt A) s j).d⟩ from rfl) ht).1
theorem Orb.leg_end (o : Orb A W H x0 y0 s K) (h3 : s.d = 3) {i j m e : Nat} {px py : Int} (l : Leg A s K (ctn A s K) i j m e px py) : gt (crn A s K) ((i + 1) % ctn A s K * 2) = px + (m : Int) * wx e ∧ gt (crn A s K) ((i + 1) % ctn A s K * 2 + 1) = py + (m : Int) * wy e := by
  obtain ⟨b1, b2⟩ := l.on m (Nat.le_refl _)
  rcases l.fin with ⟨h1, h2⟩ | ⟨h1, h2, h4⟩
  · have h0 := corner_at (A := A) (s := s) (K := K) (j := 0) o.one (o.turn0 h3)
    have hc : ctn A s 0 = 0 := rfl
    rw [hc] at h0
    have e1 : ux A s (j + m) = ux A s 0 := by
      unfold ux
      rw [h1, o.bk]
      rfl
    have e2 : uy A s (j + m) = uy A s 0 := by
      unfold uy
      rw [h1, o.bk]
      rfl
    rw [h2, Nat.mod_self, ← b1, ← b2, e1, e2]
    exact h0
  · have h0 := corner_at (A := A) (s := s) (K := K) h1 h4
    rw [l.cnt] at h0
    rw [Nat.mod_eq_of_lt h2, ← b1, ← b2]
    exact h0
end
end Go.Proofs.Ytjhldjojkaphkaa

namespace Go.Proofs.Ytjhldjojkaphkaa
open Go.ChangeShapes Go.WideShapes Go.ChangeAt Go.RowKit
set_option linter.unusedVariables false
set_option linter.unusedSimpArgs false

def sgn (x : Int) : Int := if 0 < x then 1 else if x < 0 then -1 else 0
theorem sign_any (x : Int) (w : World) : Calls Try.prog 18 #[.int .i64 x] w fun e w' => e = .returned (.int .i64 (sgn x)) ∧ w' = w := by
  by_cases h1 : 0 < x
  · have t1 := decide_eq_true h1
    go_enter Try.func18, Try.ntmps18
    go_wp2_with fail
    go_ret
    exact ⟨ret_int (a := 1) (by unfold sgn; rw [if_pos (by omega)]), rfl⟩
  · have t1 := decide_eq_false h1
    by_cases h2 : x < 0
    · have t2 := decide_eq_true h2
      go_enter Try.func18, Try.ntmps18
      go_wp2_with fail
      go_ret
      exact ⟨ret_int (a := -1) (by unfold sgn; rw [if_neg (by omega), if_pos (by omega)]), rfl⟩
    · have t2 := decide_eq_false h2
      go_enter Try.func18, Try.ntmps18
      go_wp2_with fail
      go_ret
      exact ⟨ret_int (a := 0) (by unfold sgn; rw [if_neg (by omega), if_neg (by omega)]), rfl⟩
def ab1 (x : Int) : Int := if x < 0 then -x else x
theorem abs_any (x : Int) (w : World) (hx : -1000 ≤ x ∧ x ≤ 1000) : Calls Try.prog 19 #[.int .i64 x] w fun e w' => e = .returned (.int .i64 (ab1 x)) ∧ w' = w := by
  have w1 : IntKind.i64.wrap (-x) = -x := wrap_i (by omega) (by omega)
  by_cases h1 : x < 0
  · have t1 := decide_eq_true h1
    go_enter Try.func19, Try.ntmps19
    go_wp2_with fail
    go_ret
    exact ⟨ret_int (a := -x) (by unfold ab1; rw [if_pos (by omega)]), rfl⟩
  · have t1 := decide_eq_false h1
    go_enter Try.func19, Try.ntmps19
    go_wp2_with fail
    go_ret
    exact ⟨ret_int (a := x) (by unfold ab1; rw [if_neg (by omega)]), rfl⟩
set_option maxHeartbeats 1000000 in
theorem spt_same (u v : Option Addr) (p po q qo n cu cv : Nat) (L : List Int) (w : World) (hl : L.length = n * 2) (hn : n ≤ 4611686018427387904)
    (hu : n ≠ 0 → u = some ⟨p, po, none⟩ ∧ p < w.heap.size ∧ IntsAt w p po L) (hv : n ≠ 0 → v = some ⟨q, qo, none⟩ ∧ q < w.heap.size ∧ IntsAt w q qo L) :
    Calls Try.prog 17 #[.slice u n cu, .slice v n cv] w fun e w' => e = .returned (.bool true) ∧ Below w.heap.size w w' := by
  have HU := hide hu
  have HV := hide hv
  have HL := hide hl
  clear hu hv hl
  go_enter Try.func17, Try.ntmps17
  go_wp2
  go_loopw [5] (fun s W => ∃ i : Nat, s = .int .i64 (i : Int) ∧ i ≤ n ∧ Below w.heap.size w W) (fun s _ => n - (intOf s).toNat)
  case atStart => exact ⟨0, rfl, Nat.zero_le _, Below.refl _ _⟩
  case round =>
    obtain ⟨i, rfl, hi, hw⟩ := hrel
    have HW := hide hw
    clear hw
    by_cases h : i < n
    · have i1 : (i : Int) < (n : Int) := by omega
      have i0 : (0 : Int) ≤ (i : Int) := Int.natCast_nonneg _
      have iz : decide ((i : Int) < (n : Int)) = true := decide_eq_true i1
      obtain ⟨rfl, pw, pa⟩ := unhide HU (by omega)
      obtain ⟨rfl, qw, qa⟩ := unhide HV (by omega)
      have pb := pa.below (unhide HW) pw
      have qb := qa.below (unhide HW) qw
      obtain ⟨x0, e0⟩ := at_of (f := 0) (unhide HL) h (by omega)
      have k0 := pb.at0 e0
      have l0 := qb.at0 e0
      obtain ⟨x1, e1⟩ := at_of (f := 1) (unhide HL) h (by omega)
      have k1 := pb.at e1
      have l1 := qb.at e1
      have hq : ∀ X, (binOp .neq 46 (.agg #[.int .i64 x0, .int .i64 x1]) (.agg #[.int .i64 x0, .int .i64 x1])).run Try.prog X = .ok (.bool false) X := fun X => by rw [neq46, decide_eq_true rfl]; rfl
      clear pa qa pb qb pw qw e0 e1
      go_wp2_with fail
      go_quiet (fail)
      go_wp2_with fail
      go_roundw
      case rel => exact ⟨i + 1, by simp, h, bel_dn' (unhide HW) _⟩
      case measure => simp only [intOf]; omega
    · have i1 : ¬ (i : Int) < (n : Int) := by omega
      have iz : decide ((i : Int) < (n : Int)) = false := decide_eq_false i1
      go_wp2_with fail
      go_ret
      exact ⟨rfl, unhide HW⟩
set_option maxHeartbeats 2000000 in
theorem abL_in (W H n c g po : Nat) (T : List Int) (x y : Nat) (z : Int) (w : World) (hW : W ≤ 24) (hH : H ≤ 24) (hn : n = W * H) (hF : Fd w g po n c T) (hx : x < W) (hy : y < H) :
    Calls Try.prog 20 #[fldV (W : Int) (H : Int) (some ⟨g, po, none⟩) n c, .int .i64 (x : Int), .int .i64 (y : Int), .int .i64 z] w fun e w' => e = .returned (.bool (decide (z < tp T (y * W + x)))) ∧ Below w.heap.size w w' := by
  have hi := ix_lt hx hy
  rw [← hn] at hi
  have hb : Below w.heap.size w (w.alloc (.cells #[.int .i64 (W : Int), .int .i64 (H : Int), .slice (some ⟨g, po, none⟩) n c] 25)) := ba (Below.refl _ _) _
  have HB := hide hb
  have hnb : n ≤ 576 := by rw [hn]; exact Nat.mul_le_mul hW hH
  obtain ⟨q, hq⟩ : ∃ q, y * W + x = q := ⟨_, rfl⟩
  obtain ⟨yw, hyw⟩ : ∃ yw : Nat, y * W = yw := ⟨_, rfl⟩
  have w1 : IntKind.i64.wrap ((y : Int) * (W : Int)) = (yw : Int) := by
    rw [← Int.natCast_mul, hyw]
    exact Go.IntWalk.i64_in _ ⟨by omega, by omega⟩
  have w2 : IntKind.i64.wrap ((yw : Int) + (x : Int)) = (q : Int) := (Go.IntWalk.i64_in _ ⟨by omega, by omega⟩).trans (by omega)
  rw [hq] at hi ⊢
  have cf := (hF.bel hb).ints _ _ (tp_at (T := T) (i := q) (by rw [hF.len]; exact hi))
  have v1 := vb_new w 25 [.int .i64 (W : Int), .int .i64 (H : Int), .slice (some ⟨g, po, none⟩) n c] w.heap.size rfl
  have k0 := v1.cell (m := 0) rfl
  have k1 := v1.cell (m := 1) rfl
  have k2 := v1.cell (m := 2) rfl
  have q0 : (0 : Int) ≤ (q : Int) := Int.natCast_nonneg _
  have q1 : (q : Int) < (n : Int) := by omega
  have x0 : (0 : Int) ≤ (x : Int) := Int.natCast_nonneg _
  have y0 : (0 : Int) ≤ (y : Int) := Int.natCast_nonneg _
  have d1 := decide_eq_true x0
  have d2 := decide_eq_true y0
  have d3 := decide_eq_true (show (x : Int) < (W : Int) by omega)
  have d4 := decide_eq_true (show (y : Int) < (H : Int) by omega)
  obtain ⟨t, ht⟩ : ∃ t, tp T q = t := ⟨_, rfl⟩
  rw [ht] at cf ⊢
  unfold fldV
  clear hq hyw hn hF v1 ht hb
  go_enter Try.func20, Try.ntmps20
  go_upto_region 1 with fail
  generalize w.alloc (.cells #[.int .i64 (W : Int), .int .i64 (H : Int), .slice (some ⟨g, po, none⟩) n c] 25) = Wa at *
  go_wp2_with fail
  go_ret
  exact ⟨rfl, unhide HB⟩
set_option maxHeartbeats 2000000 in
theorem abL_out (W H n c : Nat) (u : Option Addr) (x y z : Int) (w : World) (h : ¬ (0 ≤ x ∧ x < (W : Int) ∧ 0 ≤ y ∧ y < (H : Int))) :
    Calls Try.prog 20 #[fldV (W : Int) (H : Int) u n c, .int .i64 x, .int .i64 y, .int .i64 z] w fun e w' => e = .returned (.bool false) ∧ Below w.heap.size w w' := by
  have HB := hide (ba (Below.refl w.heap.size w) (.cells #[.int .i64 (W : Int), .int .i64 (H : Int), .slice u n c] 25))
  have v1 := vb_new w 25 [.int .i64 (W : Int), .int .i64 (H : Int), .slice u n c] w.heap.size rfl
  have k0 := v1.cell (m := 0) rfl
  have k1 := v1.cell (m := 1) rfl
  unfold fldV
  clear v1
  have hcs : (¬ 0 ≤ x) ∨ (0 ≤ x ∧ ¬ 0 ≤ y) ∨ (0 ≤ x ∧ 0 ≤ y ∧ ¬ x < (W : Int)) ∨ (0 ≤ x ∧ 0 ≤ y ∧ x < (W : Int) ∧ ¬ y < (H : Int)) := by omega
  rcases hcs with h1 | ⟨h1, h2⟩ | ⟨h1, h2, h3⟩ | ⟨h1, h2, h3, h4⟩
  · have d1 := decide_eq_false h1
    go_enter Try.func20, Try.ntmps20
    go_wp2_with fail
    go_ret
    exact ⟨rfl, unhide HB⟩
  · have d1 := decide_eq_true h1
    have d2 := decide_eq_false h2
    go_enter Try.func20, Try.ntmps20
    go_wp2_with fail
    go_ret
    exact ⟨rfl, unhide HB⟩
  · have d1 := decide_eq_true h1
    have d2 := decide_eq_true h2
    have d3 := decide_eq_false h3
    go_enter Try.func20, Try.ntmps20
    go_wp2_with fail
    go_ret
    exact ⟨rfl, unhide HB⟩
  · have d1 := decide_eq_true h1
    have d2 := decide_eq_true h2
    have d3 := decide_eq_true h3
    have d4 := decide_eq_false h4
    go_enter Try.func20, Try.ntmps20
    go_wp2_with fail
    go_ret
    exact ⟨rfl, unhide HB⟩
theorem abL_any (W H n c g po : Nat) (T : List Int) (x y z : Int) (w : World) (hW : W ≤ 24) (hH : H ≤ 24) (hn : n = W * H) (hF : Fd w g po n c T) :
    Calls Try.prog 20 #[fldV (W : Int) (H : Int) (some ⟨g, po, none⟩) n c, .int .i64 x, .int .i64 y, .int .i64 z] w fun e w' => e = .returned (.bool (Ab W H T z x y)) ∧ Below w.heap.size w w' := by
  by_cases h : 0 ≤ x ∧ x < (W : Int) ∧ 0 ≤ y ∧ y < (H : Int)
  · obtain ⟨a, rfl⟩ := Int.eq_ofNat_of_zero_le h.1
    obtain ⟨b, rfl⟩ := Int.eq_ofNat_of_zero_le h.2.2.1
    rw [Ab_at (by omega) (by omega)]
    exact abL_in W H n c g po T a b z w hW hH hn hF (by omega) (by omega)
  · rw [Ab_out h]
    exact abL_out W H n c (some ⟨g, po, none⟩) x y z w h
end Go.Proofs.Ytjhldjojkaphkaa

namespace Go.Proofs.Ytjhldjojkaphkaa
open Go.ChangeShapes Go.WideShapes Go.ChangeAt Go.RowKit
set_option linter.unusedVariables false
set_option linter.unusedSimpArgs false

theorem tmod_nat (i n : Nat) : ((i : Int) + 1).tmod (n : Int) = (((i + 1) % n : Nat) : Int) := by
  have : ((i : Int) + 1) = ((i + 1 : Nat) : Int) := by omega
  rw [this, Int.tmod_eq_emod_of_nonneg (by omega)]
  rfl
/-- what the law has in hand while it goes along the outline: all of it lies below T -/
structure Cl (w : World) (T b6 W H n c g po gp m cp : Nat) (P L : List Int) (X : World) : Prop where
  bel : Below w.heap.size w X
  v6 : vb X b6 25 [.int .i64 (W : Int), .int .i64 (H : Int), .slice (some ⟨g, po, none⟩) n c]
  fd : Fd X g po n c P
  rp : Row X w.heap.size 46 2 (.slice (some ⟨gp, 0, none⟩) m cp) m L
  l6 : b6 < T
  lg : g < T
  lp : gp < T
  lw : w.heap.size ≤ T
  big : T ≤ X.heap.size
theorem Cl.on {w : World} {T b6 W H n c g po gp m cp : Nat} {P L : List Int} {X X' : World} (h : Cl w T b6 W H n c g po gp m cp P L X) (hb : Below T X X') : Cl w T b6 W H n c g po gp m cp P L X' :=
  ⟨h.bel.trans (hb.mono h.lw), h.v6.below hb h.l6, ⟨Nat.lt_of_lt_of_le h.fd.lt hb.size, h.fd.ints.below hb h.lg, h.fd.len, h.fd.cap, h.fd.top⟩, h.rp.kept' (fun q hq => hb.block q (Nat.lt_of_le_of_lt (Nat.le_of_eq (show q = gp by simpa [Value.ownBlock] using hq.symm)) h.lp)), h.l6, h.lg, h.lp, h.lw, Nat.le_trans h.big hb.size⟩
theorem leg_sgn {e m : Nat} (he : e < 4) (hm : 1 ≤ m) (p q : Int) (hp : q = p + (m : Int) * wx e) : sgn (q - p) = wx e := by
  rcases d_cases he with rfl | rfl | rfl | rfl <;> simp [wx] at hp ⊢ <;> unfold sgn <;> (repeat' split) <;> omega
theorem leg_sgny {e m : Nat} (he : e < 4) (hm : 1 ≤ m) (p q : Int) (hp : q = p + (m : Int) * wy e) : sgn (q - p) = wy e := by
  rcases d_cases he with rfl | rfl | rfl | rfl <;> simp [wy] at hp ⊢ <;> unfold sgn <;> (repeat' split) <;> omega
theorem leg_abs {e : Nat} (he : e < 4) : ab1 (wx e) + ab1 (wy e) = 1 := by
  rcases d_cases he with rfl | rfl | rfl | rfl <;> simp [wx, wy, ab1]
theorem leg_cols {e : Nat} (he : e < 4) : min (wx e) 0 + min (-(wy e)) 0 = qx e ∧ min (wy e) 0 + min (wx e) 0 = qy e ∧ min (wx e) 0 + min (wy e) 0 = qx (rt e) ∧ min (wy e) 0 + min (-(wx e)) 0 = qy (rt e) := by
  rcases d_cases he with rfl | rfl | rfl | rfl <;> (simp [wx, wy, qx, qy, rt]; try omega)
/-- on the way the end is not there yet -/
theorem leg_ne {e m t : Nat} (he : e < 4) (ht : t < m) (px py : Int) : ¬ ((px + (t : Int) * wx e, py + (t : Int) * wy e) = (px + (m : Int) * wx e, py + (m : Int) * wy e)) := by
  intro h
  have h1 := (Prod.mk.inj h).1
  have h2 := (Prod.mk.inj h).2
  rcases d_cases he with rfl | rfl | rfl | rfl <;> simp [wx, wy] at h1 h2 <;> omega
set_option maxHeartbeats 8000000 in
set_option maxRecDepth 100000 in
theorem fnContour_core (a a2 : Option Addr) (len cap len2 cap2 : Nat) (zs zs2 : List Int) (w : World) (hl : len ≤ 1048576) (hl2 : len2 ≤ 1048576) (hc : Code w.heap.size w a len cap zs) (hc2 : Code w.heap.size w a2 len2 cap2 zs2) :
    Calls Try.prog 4 #[.slice a len cap, .slice a2 len2 cap2] w fun e w' => e = .returned (.bool true) ∧ Below w.heap.size w w' := by
  have HJ := hide (jobOf_any a len cap zs w hc (by omega))
  have HC2 := hide (fun X (hX : Below w.heap.size w X) => at_any a2 len2 cap2 X.heap.size zs2 0 10 X (codeUp hc2 hX) hl2 (by omega) (by omega))
  have t1 : decide ((1048576 : Int) < (len : Int)) = false := decide_eq_false (by omega)
  have t2 : decide ((1048576 : Int) < (len2 : Int)) = false := decide_eq_false (by omega)
  clear hc hc2
  go_enter Try.func4, Try.ntmps4
  go_wp2_with fail
  refine (unhide HJ).mono ?_
  rintro e W1 ⟨⟨W, H, r, gs, pos, cs, g, po, c, n, S, P, rfl, hj⟩, hb1⟩
  have hW1 := hj.W1
  have hW := hj.W2
  have hH1 := hj.H1
  have hH := hj.H2
  have HN := hide hj.n_
  have HOK := hide hj.oks.2.1
  have hA : Below W1.heap.size W1 ((W1.alloc (.cells #[.int .i64 (W : Int), .int .i64 (H : Int), .slice (some ⟨gs, pos, none⟩) n cs] 25)).alloc (.cells #[.int .i64 (W : Int), .int .i64 (H : Int), .slice (some ⟨g, po, none⟩) n c] 25)) := ba (ba (Below.refl _ _) _) _
  have HV6 := hide (vb_new2 W1 25 [.int .i64 (W : Int), .int .i64 (H : Int), .slice (some ⟨g, po, none⟩) n c] (.cells #[.int .i64 (W : Int), .int .i64 (H : Int), .slice (some ⟨gs, pos, none⟩) n cs] 25))
  have HFD := hide (hj.fp.bel hA)
  have HB1 := hide (bc hb1 hA)
  clear hj hb1 hA HJ
  have HGP := hide (fun (z : Int) (X : World) (hz : 0 ≤ z ∧ z ≤ 23) (hF : Fd X g po n c P) => ctP_good W H n c g po P z X (unhide HOK) (unhide HN) hz hF)
  have HGM := hide (fun (z : Int) (X : World) (hz : 0 ≤ z ∧ z ≤ 23) (hF : Fd X g po n c P) => ctM_good W H n c g po P z X (unhide HOK) (unhide HN) hz hF)
  have HAB := hide (fun (x y z : Int) (X : World) (hF : Fd X g po n c P) => abL_any W H n c g po P x y z X hW hH (unhide HN) hF)
  unfold fldV at *
  go_upto_region 4 with fail
  generalize (W1.alloc (.cells #[.int .i64 (W : Int), .int .i64 (H : Int), .slice (some ⟨gs, pos, none⟩) n cs] 25)).alloc (.cells #[.int .i64 (W : Int), .int .i64 (H : Int), .slice (some ⟨g, po, none⟩) n c] 25) = Wa at *
  generalize W1.heap.size + 1 = b6 at *
  go_wp2_with fail
  refine (unhide HC2 _ (unhide HB1)).mono ?_
  rintro e W2 ⟨z, rfl, hz0, hz1, hb2⟩
  have HV6b := hide ((unhide HV6).bel hb2)
  have HFDb := hide ((unhide HFD).bel hb2)
  have HB2 := hide (bc (unhide HB1) hb2)
  have hz : 0 ≤ z ∧ z ≤ 23 := by omega
  clear hb2 HV6 HFD HB1 HC2
  obtain ⟨E, L, m, hm, hL, huq⟩ := Otl.ex hW hH P z
  have HUQ := hide huq
  have HLL := hide hL
  clear huq hL
  have k0 := (unhide HV6b).cell (m := 0) rfl
  have k1 := (unhide HV6b).cell (m := 1) rfl
  have k2 := (unhide HV6b).cell (m := 2) rfl
  go_wp2_with fail
  refine (unhide HGP z _ hz (unhide HFDb)).mono ?_
  rintro e W3 ⟨⟨vp, l', L', E', rfl, hrp, hop⟩, hb3⟩
  obtain ⟨rfl, rfl⟩ := unhide HUQ _ _ hop
  obtain rfl : l' = m := by have := hrp.len; have := unhide HLL; omega
  obtain ⟨up, cp, rfl, _⟩ := hrp.form
  have HOP := hide hop
  have HRP := hide hrp
  have HV6c := hide ((unhide HV6b).bel hb3)
  have HFDc := hide ((unhide HFDb).bel hb3)
  have HB3 := hide (bc (unhide HB2) hb3)
  clear hop hrp HV6b HFDb k0 k1 k2
  have k0 := (unhide HV6c).cell (m := 0) rfl
  have k1 := (unhide HV6c).cell (m := 1) rfl
  have k2 := (unhide HV6c).cell (m := 2) rfl
  have hs23 := (unhide HB2).size
  clear hb3 HB2
  go_wp2_with fail
  refine (unhide HGM z _ hz (unhide HFDc)).mono ?_
  rintro e W4 ⟨⟨vw, l2', L2', E2', rfl, hrw, how⟩, hb4⟩
  obtain ⟨rfl, rfl⟩ := unhide HUQ _ _ how
  obtain rfl : l2' = l' := by have := hrw.len; have := unhide HLL; omega
  obtain ⟨uw, cw, rfl, _⟩ := hrw.form
  have HRW := hide hrw
  have HRPb := hide ((unhide HRP).below hb4)
  have HV6d := hide ((unhide HV6c).bel hb4)
  have HFDd := hide ((unhide HFDc).bel hb4)
  have HB4 := hide (bc (unhide HB3) hb4)
  have hs34 := hb4.size
  have hb6lt := (unhide HV6d).lt
  have hglt := (unhide HFDd).lt
  clear hrw hb4 how HV6c HFDc HRP HGP HGM k0 k1 k2 HB3
  have s1 : (E2' != E2') = false := by simp
  rcases Fst.or W H P z with hno | ⟨x0, y0, hfst⟩
  · obtain ⟨hE, hLq⟩ := (unhide HOP).none hno
    have hm0 : l2' = 0 := by have := unhide HLL; rw [hLq] at this; simp at this; omega
    subst hE hLq hm0
    have HSP := hide (fun X => spt_same up uw 0 0 0 0 0 cp cw [] X rfl (by omega) (fun h => absurd rfl h) (fun h => absurd rfl h))
    clear hno
    go_wp2_with fail
    refine (unhide HSP _).mono ?_
    rintro e W5 ⟨rfl, hb5⟩
    have HB5 := hide (bc (unhide HB4) hb5)
    clear hb5
    go_wp2_with fail
    go_ret
    exact ⟨by first | rfl | simp, unhide HB5⟩
  · obtain ⟨K, hK⟩ := Bck.ex hW hH (Ab_in (W := W) (H := H) (T := P) (z := z)) hfst.ok.1
    have horb := Orb.of hfst hK
    obtain ⟨hE, hLq⟩ := (unhide HOP).some x0 y0 K hfst hK
    have hKb := hK.le
    have hcn : ctn (Ab W H P z) ⟨(x0 : Int), (y0 : Int), 3⟩ K = l2' := by
      have h1 := unhide HLL
      rw [hLq, crn_len] at h1
      omega
    have HO := hide horb
    have HCN := hide hcn
    have HLQ := hide hLq
    have HT0 := hide (horb.turn0 rfl)
    have hm1 : 1 ≤ l2' := by
      have h1 := (cor_at (K := K) horb.one (show itr (nxt (Ab W H P z)) ⟨(x0 : Int), (y0 : Int), 3⟩ 0 = ⟨(x0 : Int), (y0 : Int), 3⟩ from rfl) (horb.turn0 rfl)).2.1
      omega
    subst hE
    clear hfst hK horb hcn hLq s1
    obtain ⟨gp, cp', hvp, hgp0, hgp1, hgpi, _, _⟩ := (unhide HRPb).full (by omega)
    obtain ⟨gw, cw', hvw, hgw0, hgw1, hgwi, _, _⟩ := (unhide HRW).full (by omega)
    cases hvp
    cases hvw
    have HSP := hide (spt_same (some ⟨gp, 0, none⟩) (some ⟨gw, 0, none⟩) gp 0 gw 0 l2' cp cw L2' W4 (unhide HLL) (by omega) (fun _ => ⟨rfl, hgp1, hgpi⟩) (fun _ => ⟨rfl, hgw1, hgwi⟩))
    have HCL : Hid (Cl w W4.heap.size b6 W H n c g po gp l2' cp P L2' W4) := hide ⟨unhide HB4, unhide HV6d, unhide HFDd, (unhide HRPb).mono (by omega), hb6lt, hglt, hgp1, (unhide HB4).size, Nat.le_refl _⟩
    clear hgpi hgwi HRPb HRW HV6d HFDd HOP HUQ
    have tm : decide (((l2' : Nat) : Int) < ((0 : Nat) : Int)) = false := decide_eq_false (by omega)
    go_wp2_with fail
    refine (unhide HSP).mono ?_
    rintro e W5 ⟨rfl, hb5⟩
    have HCL5 := hide ((unhide HCL).on hb5)
    clear hb5 HCL HSP HB4
    generalize W4.heap.size = TT at *
    go_wp2_with fail
    go_loopw [13, 14] (fun u v X => ∃ (i j : Nat) (ar : Int), u = .int .i64 ar ∧ v = .int .i64 (i : Int) ∧ ar = crs2 (Ab W H P z) ⟨(x0 : Int), (y0 : Int), 3⟩ j ∧ i ≤ l2' ∧ j ≤ K ∧ ctn (Ab W H P z) ⟨(x0 : Int), (y0 : Int), 3⟩ j = i ∧ (i < l2' → j < K ∧ nxd (Ab W H P z) (itr (nxt (Ab W H P z)) ⟨(x0 : Int), (y0 : Int), 3⟩ j) ≠ (itr (nxt (Ab W H P z)) ⟨(x0 : Int), (y0 : Int), 3⟩ j).d) ∧ (i = l2' → j = K) ∧ Cl w TT b6 W H n c g po gp l2' cp P L2' X) (fun _ v _ => l2' - (intOf v).toNat)
    case atStart => exact ⟨0, 0, 0, rfl, rfl, rfl, Nat.zero_le _, Nat.zero_le _, rfl, fun _ => ⟨(unhide HO).one, unhide HT0⟩, fun h => by omega, unhide HCL5⟩
    case round =>
      clear HCL5 HT0
      obtain ⟨i, j, ar, rfl, rfl, har, hi, hjK, hct, htn, hend, hcl⟩ := hrel
      have HAR := hide har
      have HCT := hide hct
      have HCX := hide hcl
      clear har hct hcl
      by_cases him : i < l2'
      · obtain ⟨hj, htj⟩ := htn him
        obtain ⟨mm, hleg⟩ := (unhide HO).leg hj htj
        have hca := corner_at (A := Ab W H P z) (s := ⟨(x0 : Int), (y0 : Int), 3⟩) (K := K) hj htj
        have hcb := (unhide HO).leg_end rfl hleg
        have hin1 := (unhide HO).in_ j
        have hin2 := (unhide HO).in_ (j + mm)
        have hone := hleg.on mm (Nat.le_refl _)
        have hare := hleg.area
        have hcnt := hleg.cnt
        have hfin := hleg.fin
        have hsm := (unhide HO).small hW hH j
        have hsm2 := (unhide HO).small hW hH (j + mm)
        rw [hone.1, hone.2] at hin2
        rw [unhide HCT, unhide HCN, ← unhide HLQ] at hcb
        rw [unhide HCT, ← unhide HLQ] at hca
        rw [unhide HCT] at hcnt
        rw [unhide HCT, unhide HCN] at hfin
        have hm1' := hleg.m1
        have hle := hleg.le
        have he4 := hleg.e4
        have HLG := hide hleg
        clear hleg htn htj hend hone
        generalize ud (Ab W H P z) ⟨(x0 : Int), (y0 : Int), 3⟩ j = e at *
        generalize ux (Ab W H P z) ⟨(x0 : Int), (y0 : Int), 3⟩ j = px at *
        generalize uy (Ab W H P z) ⟨(x0 : Int), (y0 : Int), 3⟩ j = py at *
        obtain ⟨bx, hbx⟩ : ∃ bx, px + (mm : Int) * wx e = bx := ⟨_, rfl⟩
        obtain ⟨by', hby⟩ : ∃ by', py + (mm : Int) * wy e = by' := ⟨_, rfl⟩
        rw [hbx, hby] at hcb hin2 hare
        have HBX := hide hbx
        have HBY := hide hby
        have hnx' : (i + 1) % l2' < l2' := Nat.mod_lt _ (by omega)
        obtain ⟨nx, hnx⟩ : ∃ q : Nat, (i + 1) % l2' = q := ⟨_, rfl⟩
        rw [hnx] at hcb hnx'
        have ea : ((i : Int) + 1).tmod (l2' : Int) = (nx : Int) := by rw [tmod_nat, hnx]
        have ea2 : ((i : Int) + 1) % (l2' : Int) = (nx : Int) := by rw [← hnx]; rfl
        have nx0 : (0 : Int) ≤ (nx : Int) := Int.natCast_nonneg _
        have nx1 : (nx : Int) < (l2' : Int) := by omega
        have i0 : (0 : Int) ≤ (i : Int) := Int.natCast_nonneg _
        have i1 : (i : Int) < (l2' : Int) := by omega
        have iz : decide ((i : Int) < (l2' : Int)) = true := decide_eq_true i1
        have wi : IntKind.i64.wrap ((i : Int) + 1) = (i : Int) + 1 := wrap_i (by omega) (by omega)
        have nz : ¬ l2' = 0 := by omega
        have nz2 : ((l2' : Int) == -1) = false := by rw [beq_eq_false_iff_ne]; omega
        have r0 := (unhide HCX).rp.cellAt (j := i * 2) (x := px) (by rw [gtk_some (by have := unhide HLL; omega), hca.1])
        have r1 := (unhide HCX).rp.cellAt (j := i * 2 + 1) (x := py) (by rw [gtk_some (by have := unhide HLL; omega), hca.2])
        have q0 := (unhide HCX).rp.cellAt (j := nx * 2) (x := bx) (by rw [gtk_some (by have := unhide HLL; omega), hcb.1])
        have q1 := (unhide HCX).rp.cellAt (j := nx * 2 + 1) (x := by') (by rw [gtk_some (by have := unhide HLL; omega), hcb.2])
        clear hca hcb hnx hbx hby
        have hTb := (unhide HCX).big
        go_upto_region 16 with fail
        have hA : Below wr.heap.size wr (wr.alloc (.cells #[.int .i64 px, .int .i64 py] 46)) := ba (Below.refl _ _) _
        have H15 := hide (vb_new wr 46 [.int .i64 px, .int .i64 py] wr.heap.size rfl)
        have HCY := hide ((unhide HCX).on (hA.mono hTb))
        have q0' := keep1 hA q0
        have q1' := keep1 hA q1
        clear q0 q1 r0 r1 hA HCX
        generalize wr.alloc (.cells #[.int .i64 px, .int .i64 py] 46) = Wx at *
        generalize wr.heap.size = b15 at *
        go_upto_region 17 with fail
        have hA : Below Wx.heap.size Wx (Wx.alloc (.cells #[.int .i64 bx, .int .i64 by'] 46)) := ba (Below.refl _ _) _
        have H16 := hide (vb_new Wx 46 [.int .i64 bx, .int .i64 by'] Wx.heap.size rfl)
        have H15b := hide ((unhide H15).bel hA)
        have HCZ := hide ((unhide HCY).on (hA.mono (unhide HCY).big))
        have hT16 := (unhide HCY).big
        have n56 : b15 ≠ Wx.heap.size := by have := (unhide H15).lt; omega
        clear q0' q1' hA HCY H15
        generalize Wx.alloc (.cells #[.int .i64 bx, .int .i64 by'] 46) = Wy at *
        generalize Wx.heap.size = b16 at *
        have a0 := (unhide H15b).cell (m := 0) rfl
        have a1 := (unhide H15b).cell (m := 1) rfl
        have c0 := (unhide H16).cell (m := 0) rfl
        have c1 := (unhide H16).cell (m := 1) rfl
        obtain ⟨p1, hp1⟩ : ∃ p, px * by' = p := ⟨_, rfl⟩
        obtain ⟨p2, hp2⟩ : ∃ p, py * bx = p := ⟨_, rfl⟩
        obtain ⟨ar2, har2⟩ : ∃ q, ar + (p1 - p2) = q := ⟨_, rfl⟩
        rw [hp1, hp2, ← unhide HAR, har2] at hare
        rw [← unhide HAR] at hsm
        rw [hare] at hsm2
        have hp1b : 0 ≤ p1 ∧ p1 ≤ 24 * 24 := by rw [← hp1]; exact ⟨Int.mul_nonneg (by omega) (by omega), Int.mul_le_mul (by omega) (by omega) (by omega) (by omega)⟩
        have hp2b : 0 ≤ p2 ∧ p2 ≤ 24 * 24 := by rw [← hp2]; exact ⟨Int.mul_nonneg (by omega) (by omega), Int.mul_le_mul (by omega) (by omega) (by omega) (by omega)⟩
        have wp1 : IntKind.i64.wrap (px * by') = p1 := (wrap_i (by rw [hp1]; omega) (by rw [hp1]; omega)).trans hp1
        have wp2 : IntKind.i64.wrap (py * bx) = p2 := (wrap_i (by rw [hp2]; omega) (by rw [hp2]; omega)).trans hp2
        have wp3 : IntKind.i64.wrap (p1 - p2) = p1 - p2 := wrap_i (by omega) (by omega)
        have wp4 : IntKind.i64.wrap (ar + (p1 - p2)) = ar2 := (wrap_i (by omega) (by omega)).trans har2
        have wx1 : IntKind.i64.wrap (bx - px) = bx - px := wrap_i (by omega) (by omega)
        have wy1 : IntKind.i64.wrap (by' - py) = by' - py := wrap_i (by omega) (by omega)
        obtain ⟨dx, hdx⟩ : ∃ d, wx e = d := ⟨_, rfl⟩
        obtain ⟨dy, hdy⟩ : ∃ d, wy e = d := ⟨_, rfl⟩
        have hdb := wx_bd e
        have hdc := wy_bd e
        rw [hdx] at hdb
        rw [hdy] at hdc
        have HS1 : Hid (∀ X, Calls Try.prog 18 #[.int .i64 (bx - px)] X fun e w' => e = .returned (.int .i64 dx) ∧ w' = X) := hide (fun X => by have h9 := sign_any (bx - px) X; rw [leg_sgn he4 hm1' px bx (unhide HBX).symm, hdx] at h9; exact h9)
        have HS2 : Hid (∀ X, Calls Try.prog 18 #[.int .i64 (by' - py)] X fun e w' => e = .returned (.int .i64 dy) ∧ w' = X) := hide (fun X => by have h9 := sign_any (by' - py) X; rw [leg_sgny he4 hm1' py by' (unhide HBY).symm, hdy] at h9; exact h9)
        obtain ⟨g1, hg1⟩ : ∃ d, ab1 dx = d := ⟨_, rfl⟩
        obtain ⟨g2, hg2⟩ : ∃ d, ab1 dy = d := ⟨_, rfl⟩
        have hg12 : g1 + g2 = 1 := by have h9 := leg_abs he4; rw [hdx, hdy, hg1, hg2] at h9; exact h9
        have HS3 : Hid (∀ X, Calls Try.prog 19 #[.int .i64 dx] X fun e w' => e = .returned (.int .i64 g1) ∧ w' = X) := hide (fun X => by have h9 := abs_any dx X (by omega); rw [hg1] at h9; exact h9)
        have HS4 : Hid (∀ X, Calls Try.prog 19 #[.int .i64 dy] X fun e w' => e = .returned (.int .i64 g2) ∧ w' = X) := hide (fun X => by have h9 := abs_any dy X (by omega); rw [hg2] at h9; exact h9)
        have wg : IntKind.i64.wrap (g1 + g2) = 1 := by rw [hg12]; exact wrap_i (by omega) (by omega)
        have HDX := hide hdx
        have HDY := hide hdy
        have HAR2 := hide hare
        clear hp1 hp2 har2 hg1 hg2 hg12 hdx hdy hare hsm hsm2 hp1b hp2b
        go_wp2_with fail
        refine (unhide HS1 _).mono ?_
        rintro _ Wq ⟨rfl, hq⟩
        rw [hq]
        clear hq
        go_wp2_with fail
        refine (unhide HS2 _).mono ?_
        rintro _ Wq ⟨rfl, hq⟩
        rw [hq]
        clear hq
        go_wp2_with fail
        refine (unhide HS3 _).mono ?_
        rintro _ Wq ⟨rfl, hq⟩
        rw [hq]
        clear hq
        go_wp2_with fail
        refine (unhide HS4 _).mono ?_
        rintro _ Wq ⟨rfl, hq⟩
        rw [hq]
        clear hq
        go_wp2_with fail
        clear a0 a1 c0 c1
        go_loopg [] mm (fun kk X => ∃ (t : Nat) (ax ay : Int), kk = mm - t ∧ t ≤ mm ∧ ax = px + (t : Int) * wx e ∧ ay = py + (t : Int) * wy e ∧ vb X b15 46 [.int .i64 ax, .int .i64 ay] ∧ vb X b16 46 [.int .i64 bx, .int .i64 by'] ∧ Cl w TT b6 W H n c g po gp l2' cp P L2' X)
        case atStart => exact ⟨0, px, py, rfl, Nat.zero_le _, by simp, by simp, unhide H15b, unhide H16, unhide HCZ⟩
        case round =>
          clear H15b H16 HCZ
          obtain ⟨t, ax, ay, hgk, htm, hax, hay, hv15, hv16, hclx⟩ := hrel
          have HGK := hide hgk
          have HAX := hide hax
          have HAY := hide hay
          have HV15 := hide hv15
          have HV16 := hide hv16
          have HCX := hide hclx
          have a0 := hv15.cell (m := 0) rfl
          have a1 := hv15.cell (m := 1) rfl
          have c0 := hv16.cell (m := 0) rfl
          have c1 := hv16.cell (m := 1) rfl
          by_cases htt : t < mm
          · have hon := (unhide HLG).on t (by omega)
            have hdir := (unhide HLG).dir t htt
            have hin := (unhide HO).in_ (j + t)
            have hlf := (unhide HO).left (j + t)
            have hrt := (unhide HO).right (j + t)
            rw [hdir, hon.1, hon.2, ← hax, ← hay] at hlf hrt
            rw [hon.1, hon.2, ← hax, ← hay] at hin
            have hq : ∀ X, (binOp .neq 46 (.agg #[.int .i64 ax, .int .i64 ay]) (.agg #[.int .i64 bx, .int .i64 by'])).run Try.prog X = .ok (.bool true) X := fun X => by rw [neq46, decide_eq_false (by rw [hax, hay, ← unhide HBX, ← unhide HBY]; exact leg_ne he4 htt px py)]; rfl
            have hcols := leg_cols he4
            rw [unhide HDX, unhide HDY] at hcols
            obtain ⟨lx, hlx⟩ : ∃ q, ax + qx e = q := ⟨_, rfl⟩
            obtain ⟨ly, hly⟩ : ∃ q, ay + qy e = q := ⟨_, rfl⟩
            obtain ⟨rx, hrx⟩ : ∃ q, ax + qx (rt e) = q := ⟨_, rfl⟩
            obtain ⟨ry, hry⟩ : ∃ q, ay + qy (rt e) = q := ⟨_, rfl⟩
            rw [hlx, hly] at hlf
            rw [hrx, hry] at hrt
            have u1 : IntKind.i64.wrap (ax + min dx 0) = ax + min dx 0 := wrap_i (by omega) (by omega)
            have u2 : IntKind.i64.wrap (-dy) = -dy := wrap_i (by omega) (by omega)
            have u3 : IntKind.i64.wrap (ax + min dx 0 + min (-dy) 0) = lx := (wrap_i (by omega) (by omega)).trans (by omega)
            have u4 : IntKind.i64.wrap (ay + min dy 0) = ay + min dy 0 := wrap_i (by omega) (by omega)
            have u5 : IntKind.i64.wrap (ay + min dy 0 + min dx 0) = ly := (wrap_i (by omega) (by omega)).trans (by omega)
            have u6 : IntKind.i64.wrap (ax + min dx 0 + min dy 0) = rx := (wrap_i (by omega) (by omega)).trans (by omega)
            have u7 : IntKind.i64.wrap (-dx) = -dx := wrap_i (by omega) (by omega)
            have u8 : IntKind.i64.wrap (ay + min dy 0 + min (-dx) 0) = ry := (wrap_i (by omega) (by omega)).trans (by omega)
            have u9 : IntKind.i64.wrap (ax + dx) = ax + dx := wrap_i (by omega) (by omega)
            have u10 : IntKind.i64.wrap (ay + dy) = ay + dy := wrap_i (by omega) (by omega)
            have HA1 : Hid (∀ X, Fd X g po n c P → Calls Try.prog 20 #[.agg #[.int .i64 (W : Int), .int .i64 (H : Int), .slice (some ⟨g, po, none⟩) n c], .int .i64 lx, .int .i64 ly, .int .i64 z] X fun e w' => e = .returned (.bool true) ∧ Below X.heap.size X w') := hide (fun X hX => by have h9 := unhide HAB lx ly z X hX; rw [hlf] at h9; exact h9)
            have HA2 : Hid (∀ X, Fd X g po n c P → Calls Try.prog 20 #[.agg #[.int .i64 (W : Int), .int .i64 (H : Int), .slice (some ⟨g, po, none⟩) n c], .int .i64 rx, .int .i64 ry, .int .i64 z] X fun e w' => e = .returned (.bool false) ∧ Below X.heap.size X w') := hide (fun X hX => by have h9 := unhide HAB rx ry z X hX; rw [hrt] at h9; exact h9)
            have k0 := hclx.v6.cell (m := 0) rfl
            have k1 := hclx.v6.cell (m := 1) rfl
            have k2 := hclx.v6.cell (m := 2) rfl
            clear hgk hax hay hv15 hv16 hclx hon hdir hin hlf hrt hcols hlx hly hrx hry
            go_wp2_with fail
            refine (unhide HA1 _ (unhide HCX).fd).mono ?_
            rintro _ Wq ⟨rfl, hb⟩
            have HCY := hide ((unhide HCX).on (hb.mono (unhide HCX).big))
            have HV15b := hide ((unhide HV15).bel hb)
            have HV16b := hide ((unhide HV16).bel hb)
            clear hb HCX HV15 HV16 k0 k1 k2 a0 a1 c0 c1
            have k0 := (unhide HCY).v6.cell (m := 0) rfl
            have k1 := (unhide HCY).v6.cell (m := 1) rfl
            have k2 := (unhide HCY).v6.cell (m := 2) rfl
            go_wp2_with fail
            refine (unhide HA2 _ (unhide HCY).fd).mono ?_
            rintro _ Wr ⟨rfl, hb⟩
            have HCZ := hide ((unhide HCY).on (hb.mono (unhide HCY).big))
            have HV15c := hide ((unhide HV15b).bel hb)
            have HV16c := hide ((unhide HV16b).bel hb)
            clear hb HCY HV15b HV16b k0 k1 k2
            have a0 := (unhide HV15c).cell (m := 0) rfl
            have a1 := (unhide HV15c).cell (m := 1) rfl
            have af := (unhide HV15c).frozen
            go_wp2_with fail
            go_roundg (mm - (t + 1))
            case measure => have := unhide HGK; omega
            case rel =>
              refine ⟨t + 1, ax + dx, ay + dy, rfl, by omega, ?_, ?_, ((unhide HV15c).set 0 _).set 1 _, ((unhide HV16c).ne n56.symm).ne n56.symm, (unhide HCZ).on (((Below.refl _ _).setCell (p := ⟨b15, 0, none⟩) hTb _).setCell (p := ⟨b15, 1, none⟩) hTb _)⟩
              · rw [unhide HAX, ← unhide HDX, Int.natCast_add, Int.add_mul]; omega
              · rw [unhide HAY, ← unhide HDY, Int.natCast_add, Int.add_mul]; omega
          · have hte : t = mm := by omega
            have hq : ∀ X, (binOp .neq 46 (.agg #[.int .i64 ax, .int .i64 ay]) (.agg #[.int .i64 bx, .int .i64 by'])).run Try.prog X = .ok (.bool false) X := fun X => by rw [neq46, decide_eq_true (by rw [hax, hay, hte, unhide HBX, unhide HBY])]; rfl
            clear hgk hax hay hv15 hv16 hclx hte htt
            go_wp2_with fail
            go_roundw
            case rel => exact ⟨i + 1, j + mm, ar2, rfl, by simp, (unhide HAR2).symm, by omega, hle, hcnt, fun h => by rcases hfin with ⟨_, h2⟩ | ⟨h1, _, h3⟩; omega; exact ⟨h1, h3⟩, fun h => by rcases hfin with ⟨h1, _⟩ | ⟨_, h2, _⟩; exact h1; omega, unhide HCX⟩
            case measure => simp only [intOf]; omega
      · have iz : decide ((i : Int) < (l2' : Int)) = false := decide_eq_false (by omega)
        obtain rfl := hend (by omega)
        have hpos := (unhide HO).area
        rw [← unhide HAR] at hpos
        have tz := decide_eq_true hpos
        clear hend htn hpos
        go_wp2_with fail
        go_ret
        exact ⟨rfl, (unhide HCX).bel⟩
end Go.Proofs.Ytjhldjojkaphkaa

namespace Go.Proofs.Ytjhldjojkaphkaa
open Go.ChangeShapes Go.WideShapes Go.ChangeAt Go.RowKit
set_option linter.unusedVariables false
set_option linter.unusedSimpArgs false


/-- what the walk is told of bytes that came in -/
def IsRow (k : IntKind) (w : World) (a : Option Addr) (len cap : Nat) (zs : List Int) : Prop :=
  (a = none ∧ len = 0 ∧ cap = 0 ∧ zs = []) ∨
  ∃ x, a = some x ∧ len ≤ cap ∧ cap ≤ maxLen ∧ zs.length = cap ∧ (∀ i, i < zs.length → w.cell? (x.add i) = some (.int k (zs.getD i 0))) ∧ ∀ n ∈ zs, (Lit.int k n).wf = true
theorem row_code {w : World} {a : Option Addr} {len cap : Nat} {zs : List Int} (h : IsRow .u8 w a len cap zs) : Code w.heap.size w a len cap zs ∧ len ≤ maxLen := by
  rcases h with ⟨rfl, rfl, rfl, rfl⟩ | ⟨x, rfl, hl, hm, hz, hcell, hwz⟩
  · exact ⟨.inl rfl, by unfold maxLen; omega⟩
  · refine ⟨?_, Nat.le_trans hl hm⟩
    by_cases h0 : len = 0
    · exact .inl h0
    · obtain ⟨b, off, spot⟩ := x
      have hc := hcell 0 (by omega)
      have hspot : spot = none := by simpa [Addr.add] using World.cell?_spot hc
      subst hspot
      have hc0 : w.cell? ⟨b, off, none⟩ = some (.int .u8 (zs.getD 0 0)) := by simpa [Addr.add] using hc
      refine .inr ⟨b, off, rfl, cell_lt hc0, cell_lt hc0, hl, hm, hz, fun i hi => ?_, fun i => ?_⟩
      · have hci := hcell i hi
        by_cases e0 : i = 0
        · subst e0; simpa [Addr.add] using hci
        · simpa [Addr.add, e0] using hci
      by_cases hi : i < zs.length
      · have e : zs.getD i 0 = zs[i] := by simp [List.getD, hi]
        rw [e]
        exact bounds_u8 (hwz _ (List.getElem_mem hi))
      · have e : zs.getD i 0 = 0 := by simp [List.getD, List.getElem?_eq_none (Nat.le_of_not_lt hi)]
        rw [e]; omega

set_option maxHeartbeats 400000 in
set_option maxRecDepth 100000 in
theorem fnContour_walk (a : Option Addr) (len cap : Nat) (zs : List Int) (a2 : Option Addr) (len2 cap2 : Nat) (zs2 : List Int) (w : World) (h : IsRow .u8 w a len cap zs) (h2 : IsRow .u8 w a2 len2 cap2 zs2) :
    Calls Try.prog 4 #[.slice a len cap, .slice a2 len2 cap2] w fun e w' => e = .returned (.bool true) ∧ Below w.heap.size w w' := by
  obtain ⟨hc, hm⟩ := row_code h
  obtain ⟨hc2, hm2⟩ := row_code h2
  unfold maxLen at hm hm2
  by_cases hl : len ≤ 1048576
  · by_cases hl2 : len2 ≤ 1048576
    · exact fnContour_core a a2 len cap len2 cap2 zs zs2 w hl hl2 hc hc2
    · have t1 : decide ((1048576 : Int) < (len : Int)) = false := decide_eq_false (by omega)
      have t2 : decide ((1048576 : Int) < (len2 : Int)) = true := decide_eq_true (by omega)
      clear hc h hc2 h2
      go_enter Try.func4, Try.ntmps4
      go_wp2
      go_ret
      exact ⟨rfl, Below.refl _ _⟩
  · have t1 : decide ((1048576 : Int) < (len : Int)) = true := decide_eq_true (by omega)
    clear hc h hc2 h2
    go_enter Try.func4, Try.ntmps4
    go_wp2
    go_ret
    exact ⟨rfl, Below.refl _ _⟩

theorem fnContour_own : ownKnob Try.prog.godebug = none := by kernel_rfl
theorem fnContour_laidOut : laidOutB Try.prog = true := by kernel_rfl

set_option maxRecDepth 100000 in
theorem fnContour_lifted (os : Os) (started : os.Started) (H : Type) (enc : TypeId × Value → H) :
    ReturnsInHanded {} Try.checked os 4 .any (Rows.fnContourSpec.pre6 enc Try.prog Try.f4 Rows.fnContourRow.domain false) (Rows.fnContourSpec.post enc Try.prog Try.f4 false true false false) := by
  refine returnsInHanded_of_change (C := Try.checked) fnContour_own started (by kernel_rfl) Try.func4
    (ChangeSpec.witness6 (enc := enc) (C := Try.checked) false ⟨#[], #[.slice none 0 0, .slice none 0 0], []⟩ 8 (by kernel_rfl) (by kernel_rfl) (by kernel_rfl) (by kernel_rfl)) ?_
  intro W base args ds gs before hval0 hW hcnd _
  have hval : ∀ (j : Nat) t v, Try.f4.params[j]? = some t → args[j]? = some v → Value.okWide Try.prog W .any base t v := hval0
  have hW' := hW
  obtain ⟨p, q, hA0, hV, rfl, hfz, hnd⟩ := hW
  have hA : DataW.TrodAll enc Try.prog W 0 (fun _ => true) true Try.f4.params.toList args.toList ds p := hA0
  rw [Try.params4] at hA hval
  obtain ⟨v0, vs0, d0, ds0, p0, q0, hargs, rfl, rfl, h0, r0⟩ := trodAll_cons hA
  obtain ⟨v1, vs1, d1, ds1, p1, q1, rfl, rfl, rfl, h1, r1⟩ := trodAll_cons r0
  obtain ⟨rfl, rfl, rfl⟩ := trodAll_nil r1
  obtain rfl : args = #[v0, v1] := by cases args; simp_all
  obtain ⟨rfl, rfl⟩ := trodVars_none hV
  obtain ⟨a0, len0, cap0, rfl⟩ := okWide_slice Try.underlying22 (hval 0 22 v0 rfl rfl)
  have k0 := h0
  have lt0 : ∀ x ∈ p0, x.block < W.heap.size := by obtain ⟨m, hm⟩ := k0; exact DataW.trod_lt m _ _ _ hm
  obtain ⟨z0, w0⟩ : ∃ zs, IsRow .u8 W a0 len0 cap0 zs := by
    obtain ⟨fuel, hf⟩ := h0
    rcases open_ints Try.underlying22 Try.underlying5 (by kernel_rfl) hf with ⟨hcs, _⟩ | ⟨x, l, c, zs, hcs, _, hl, hm, hz, _, hcell, hwz⟩
    · simp [Value.cells] at hcs
      obtain ⟨rfl, rfl, rfl⟩ := hcs
      exact ⟨[], .inl ⟨rfl, rfl, rfl, rfl⟩⟩
    · simp [Value.cells] at hcs
      obtain ⟨rfl, rfl, rfl⟩ := hcs
      exact ⟨zs, .inr ⟨_, rfl, hl, hm, by simpa using hz, hcell, hwz⟩⟩
  obtain ⟨a1, len1, cap1, rfl⟩ := okWide_slice Try.underlying22 (hval 1 22 v1 rfl rfl)
  have k1 := h1
  have lt1 : ∀ x ∈ p1, x.block < W.heap.size := by obtain ⟨m, hm⟩ := k1; exact DataW.trod_lt m _ _ _ hm
  obtain ⟨z1, w1⟩ : ∃ zs, IsRow .u8 W a1 len1 cap1 zs := by
    obtain ⟨fuel, hf⟩ := h1
    rcases open_ints Try.underlying22 Try.underlying5 (by kernel_rfl) hf with ⟨hcs, _⟩ | ⟨x, l, c, zs, hcs, _, hl, hm, hz, _, hcell, hwz⟩
    · simp [Value.cells] at hcs
      obtain ⟨rfl, rfl, rfl⟩ := hcs
      exact ⟨[], .inl ⟨rfl, rfl, rfl, rfl⟩⟩
    · simp [Value.cells] at hcs
      obtain ⟨rfl, rfl, rfl⟩ := hcs
      exact ⟨zs, .inr ⟨_, rfl, hl, hm, by simpa using hz, hcell, hwz⟩⟩
  clear hA0 hval0
  refine (fnContour_walk a0 len0 cap0 z0 a1 len1 cap1 z1 W w0 w1).mono fun e W' ⟨he, bel⟩ => ?_
  subst he
  exact ⟨_, rfl, _, _, _, [], _, [], hW', trodAll_mk1 (shut_bool Try.underlying4 _), (trodAll_cons_mk (Below.trod fnContour_laidOut (by kernel_rfl) (of_decide_eq_true (by kernel_rfl)) k0 bel lt0) (trodAll_cons_mk (Below.trod fnContour_laidOut (by kernel_rfl) (of_decide_eq_true (by kernel_rfl)) k1 bel lt1) trodAll_mk0)), rfl, bel.frame _, fun h => by cases h⟩

theorem fnContour_over : Rows.fnContourRow.holds Try.pinned (OpenSpec.ofChange Rows.fnContourSpec) :=
  OpenClaim.holds_of_wide 4 Try.f4 rfl rfl rfl rfl rfl rfl rfl ⟨rfl, rfl, rfl, rfl, rfl⟩ rfl rfl rfl rfl rfl (by kernel_rfl) Try.func4 (by kernel_rfl)
    (of_decide_eq_true (by kernel_rfl)) (by unfold Func.isWrapper; first | (rw [if_pos (by decide +kernel)]; kernel_rfl) | (rw [if_neg (by decide +kernel)]; exact ⟨rfl, rfl⟩))
    (fun os started H enc _ => fnContour_lifted os started H enc)

/-- The statement, as it was given. -/
theorem fnContour_holds : Rows.FnContourSaid := fnContour_over
#print axioms fnContour_holds
end Go.Proofs.Ytjhldjojkaphkaa
