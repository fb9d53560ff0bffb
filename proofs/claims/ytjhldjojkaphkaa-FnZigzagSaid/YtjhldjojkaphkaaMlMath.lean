/-
  Milling in lists: which columns a tool takes, how high they are, what is taken of them.
-/
import Derived.Below
namespace Go.Proofs.Ytjhldjojkaphkaa
set_option linter.unusedVariables false
set_option linter.unusedSimpArgs false

/-- a number of a row, 0 beyond it -/
def tp (T : List Int) (i : Nat) : Int := T.getD i 0
theorem tp_at {T : List Int} {i : Nat} (h : i < T.length) : T[i]? = some (tp T i) := by
  unfold tp
  rw [List.getD_eq_getElem?_getD, List.getElem?_eq_getElem h]
  rfl
theorem tp_of {T : List Int} {i : Nat} {x : Int} (h : T[i]? = some x) : tp T i = x := by
  unfold tp
  rw [List.getD_eq_getElem?_getD, h]
  rfl
theorem tp_set {T : List Int} {i j : Nat} {x : Int} (h : i < T.length) : tp (T.set i x) j = if i = j then x else tp T j := by
  unfold tp
  rw [List.getD_eq_getElem?_getD, List.getElem?_set]
  by_cases e : i = j
  · subst e
    simp [h]
  · simp [e, List.getD_eq_getElem?_getD]
theorem list_ext {A B : List Int} (hl : A.length = B.length) (h : ∀ i, i < A.length → tp A i = tp B i) : A = B := by
  apply List.ext_getElem?
  intro i
  by_cases hi : i < A.length
  · rw [tp_at hi, tp_at (by omega), h i hi]
  · rw [List.getElem?_eq_none (by omega), List.getElem?_eq_none (by omega)]

/-- how far a tool reaches aside, k rows away -/
def asd (r : Nat) (k : Int) : Nat :=
  if 9 + k * k ≤ (r : Int) * r then 3 else if 4 + k * k ≤ (r : Int) * r then 2 else if 1 + k * k ≤ (r : Int) * r then 1 else 0
theorem asd_le (r : Nat) (k : Int) : asd r k ≤ 3 := by unfold asd; split <;> (try split) <;> (try split) <;> omega
theorem sq_nn (k : Int) : 0 ≤ k * k := by
  rcases Int.le_total 0 k with h | h
  · exact Int.mul_nonneg h h
  · exact Int.mul_nonneg_of_nonpos_of_nonpos h h
theorem rr_cases {r : Nat} (h : r ≤ 3) : (r : Int) * r = 0 ∨ (r : Int) * r = 1 ∨ (r : Int) * r = 4 ∨ (r : Int) * r = 9 := by
  have : r = 0 ∨ r = 1 ∨ r = 2 ∨ r = 3 := by omega
  rcases this with rfl | rfl | rfl | rfl <;> simp
theorem asd_r {r : Nat} (h : r ≤ 3) (k : Int) : asd r k ≤ r := by
  have hk := sq_nn k
  have : r = 0 ∨ r = 1 ∨ r = 2 ∨ r = 3 := by omega
  unfold asd
  rcases this with rfl | rfl | rfl | rfl <;> (split <;> (try split) <;> (try split) <;> omega)
/-- the reach is right -/
theorem asd_iff {r : Nat} (hr : r ≤ 3) (k d : Int) (hk : k * k ≤ (r : Int) * r) : d * d + k * k ≤ (r : Int) * r ↔ (-(asd r k : Int) ≤ d ∧ d ≤ (asd r k : Int)) := by
  have h0 := sq_nn k
  have h9 := rr_cases hr
  have hd : (d ≤ -4 ∨ 4 ≤ d) ∨ d = -3 ∨ d = -2 ∨ d = -1 ∨ d = 0 ∨ d = 1 ∨ d = 2 ∨ d = 3 := by omega
  have ha := asd_le r k
  rcases hd with h | hd
  · have h16 : 16 ≤ d * d := by
      rcases h with h | h
      · have h0 : 0 ≤ (-d - 4) * (-d + 4) := Int.mul_nonneg (by omega) (by omega)
        have e : (-d - 4) * (-d + 4) = d * d - 16 := by grind
        omega
      · have h0 : 0 ≤ (d - 4) * (d + 4) := Int.mul_nonneg (by omega) (by omega)
        have e : (d - 4) * (d + 4) = d * d - 16 := by grind
        omega
    constructor
    · intro h'; omega
    · intro h'; omega
  · have hA : (asd r k = 3 ∧ 9 + k * k ≤ (r : Int) * r) ∨ (asd r k = 2 ∧ 4 + k * k ≤ (r : Int) * r ∧ ¬ 9 + k * k ≤ (r : Int) * r) ∨ (asd r k = 1 ∧ 1 + k * k ≤ (r : Int) * r ∧ ¬ 4 + k * k ≤ (r : Int) * r) ∨ (asd r k = 0 ∧ ¬ 1 + k * k ≤ (r : Int) * r) := by
      unfold asd
      split <;> (try split) <;> (try split) <;> omega
    generalize asd r k = a at *
    generalize k * k = kk at *
    generalize (r : Int) * r = rr at *
    rcases hd with rfl | rfl | rfl | rfl | rfl | rfl | rfl <;> omega
theorem asd_zero {k : Int} (hk : k * k ≤ 0) : asd 0 k = 0 := by
  have h0 := sq_nn k
  unfold asd
  rw [if_neg (by simp; omega), if_neg (by simp; omega), if_neg (by simp; omega)]

/-- the first row that a tool at y takes of, and how many -/
def vf (r y : Nat) : Nat := y - r
def vn (H r y : Nat) : Nat := min (y + r) (H - 1) + 1 - (y - r)
/-- the piece of a row: where it begins, and how long it is -/
def uf (r x y v : Nat) : Nat := x - asd r ((v : Int) - y)
def ue (W r x y v : Nat) : Nat := min W (x + asd r ((v : Int) - y) + 1)
def piece (W r x y v : Nat) : Nat × Nat := (v * W + uf r x y v, ue W r x y v - uf r x y v)
def pieces (W H r x y : Nat) : List (Nat × Nat) := (List.range' (vf r y) (vn H r y)).map (piece W r x y)
/-- the numbers of pieces -/
def flatP (ps : List (Nat × Nat)) : List Nat := ps.flatMap fun p => List.range' p.1 p.2
/-- the numbers of the columns that a tool takes, in their order -/
def cols (W H r x y : Nat) : List Nat := flatP (pieces W H r x y)
theorem flatP_nil : flatP [] = [] := rfl
theorem flatP_snoc (ps : List (Nat × Nat)) (p : Nat × Nat) : flatP (ps ++ [p]) = flatP ps ++ List.range' p.1 p.2 := by simp [flatP]
theorem sq_le {a b : Nat} {y v : Nat} (h1 : y - a ≤ v) (h2 : v ≤ y + a) : ((v : Int) - y) * ((v : Int) - y) ≤ (a : Int) * a := by
  have l : -(a : Int) ≤ (v : Int) - y := by omega
  have u : (v : Int) - y ≤ a := by omega
  generalize (v : Int) - y = k at *
  have h0 : 0 ≤ (a - k) * (a + k) := Int.mul_nonneg (by omega) (by omega)
  have e : ((a : Int) - k) * (a + k) = (a : Int) * a - k * k := by grind
  omega
theorem sq_out {a : Nat} {y v : Nat} (h : ((v : Int) - y) * ((v : Int) - y) ≤ (a : Int) * a) : y - a ≤ v ∧ v ≤ y + a := by
  by_cases h1 : v < y - a
  · exfalso
    have : (a : Int) + 1 ≤ (y : Int) - v := by omega
    have := Int.mul_le_mul this this (by omega) (by omega)
    have e : ((y : Int) - v) * ((y : Int) - v) = ((v : Int) - y) * ((v : Int) - y) := by grind
    have e2 : ((a : Int) + 1) * ((a : Int) + 1) = (a : Int) * a + 2 * a + 1 := by grind
    omega
  · by_cases h2 : y + a < v
    · exfalso
      have : (a : Int) + 1 ≤ (v : Int) - y := by omega
      have := Int.mul_le_mul this this (by omega) (by omega)
      have e2 : ((a : Int) + 1) * ((a : Int) + 1) = (a : Int) * a + 2 * a + 1 := by grind
      omega
    · omega
/-- a piece is not empty, and lies in its row -/
theorem piece_ok {W r x y v : Nat} (hx : x < W) : uf r x y v < ue W r x y v ∧ ue W r x y v ≤ W := by
  unfold uf ue
  omega
/-- what the columns of a row are -/
theorem piece_mem {W r x y v u : Nat} (hr : r ≤ 3) (h1 : y - r ≤ v) (h2 : v ≤ y + r) : (uf r x y v ≤ u ∧ u < ue W r x y v) ↔ (u < W ∧ ((u : Int) - x) * ((u : Int) - x) + ((v : Int) - y) * ((v : Int) - y) ≤ (r : Int) * r) := by
  rw [asd_iff hr _ _ (sq_le (b := 0) h1 h2)]
  unfold uf ue
  generalize asd r ((v : Int) - y) = a
  omega
/-- the columns that a tool takes -/
theorem cols_mem {W H r x y i : Nat} (hr : r ≤ 3) (hH : 0 < H) : i ∈ cols W H r x y ↔ ∃ u v, i = v * W + u ∧ u < W ∧ v < H ∧ ((u : Int) - x) * ((u : Int) - x) + ((v : Int) - y) * ((v : Int) - y) ≤ (r : Int) * r := by
  unfold cols flatP pieces
  simp only [List.mem_flatMap, List.mem_map, List.mem_range'_1]
  constructor
  · rintro ⟨p, ⟨v, ⟨h1, h2⟩, rfl⟩, h3, h4⟩
    unfold vf at h1 h2
    unfold vn at h2
    have hv1 : y - r ≤ v := h1
    have hv2 : v ≤ y + r := by omega
    have hv3 : v < H := by omega
    simp only [piece] at h3 h4
    have hm := (piece_mem (W := W) (x := x) (u := i - v * W) hr hv1 hv2).1 ⟨by omega, by omega⟩
    exact ⟨i - v * W, v, by omega, hm.1, hv3, hm.2⟩
  · rintro ⟨u, v, rfl, h1, h2, h3⟩
    have hv := sq_out (a := r) (y := y) (v := v) (by have := sq_nn ((u : Int) - x); omega)
    obtain ⟨m1, m2⟩ := (piece_mem (W := W) (x := x) (u := u) hr hv.1 hv.2).2 ⟨h1, h3⟩
    refine ⟨piece W r x y v, ⟨v, ⟨hv.1, ?_⟩, rfl⟩, ?_, ?_⟩
    · unfold vf vn; omega
    · simp only [piece]; omega
    · simp only [piece]; omega
theorem cols_lt {W H r x y i : Nat} (hr : r ≤ 3) (hH : 0 < H) (h : i ∈ cols W H r x y) : i < W * H := by
  obtain ⟨u, v, rfl, h1, h2, _⟩ := (cols_mem hr hH).1 h
  have : (v + 1) * W ≤ H * W := Nat.mul_le_mul_right W h2
  rw [Nat.add_mul] at this
  rw [Nat.mul_comm W H]
  omega
theorem cell_inj {W u v u' v' : Nat} (h1 : u < W) (h2 : u' < W) (h : v * W + u = v' * W + u') : v = v' ∧ u = u' := by
  have e : v = v' := by
    have a := Nat.div_add_mod (v * W + u) W
    have : (v * W + u) / W = v := by rw [Nat.mul_comm, Nat.mul_add_div (by omega), Nat.div_eq_of_lt h1]; rfl
    have h3 : (v' * W + u') / W = v' := by rw [Nat.mul_comm, Nat.mul_add_div (by omega), Nat.div_eq_of_lt h2]; rfl
    rw [h, h3] at this
    exact this.symm
  subst e
  exact ⟨rfl, by omega⟩
/-- a tool takes of a column at just the columns that it takes there -/
theorem cols_sym {W H r x y u v : Nat} (hr : r ≤ 3) (hx : x < W) (hy : y < H) (hu : u < W) (hv : v < H) : v * W + u ∈ cols W H r x y ↔ y * W + x ∈ cols W H r u v := by
  have hH : 0 < H := by omega
  have e : ∀ a b c d : Int, (a - b) * (a - b) + (c - d) * (c - d) = (b - a) * (b - a) + (d - c) * (d - c) := by intro a b c d; grind
  rw [cols_mem hr hH, cols_mem hr hH]
  constructor
  · rintro ⟨u', v', h1, h2, h3, h4⟩
    obtain ⟨rfl, rfl⟩ := cell_inj hu h2 h1
    exact ⟨x, y, rfl, hx, hy, by rw [e]; exact h4⟩
  · rintro ⟨u', v', h1, h2, h3, h4⟩
    obtain ⟨rfl, rfl⟩ := cell_inj hx h2 h1
    exact ⟨u, v, rfl, hu, hv, by rw [e]; exact h4⟩
theorem cols_self {W H r x y : Nat} (hr : r ≤ 3) (hx : x < W) (hy : y < H) : y * W + x ∈ cols W H r x y :=
  (cols_mem hr (by omega)).2 ⟨x, y, rfl, hx, hy, by simp; exact Int.mul_nonneg (by omega) (by omega)⟩
theorem cols_tool0 {W H x y i : Nat} (hx : x < W) (hy : y < H) : i ∈ cols W H 0 x y ↔ i = y * W + x := by
  rw [cols_mem (by omega) (by omega)]
  constructor
  · rintro ⟨u, v, rfl, h1, h2, h3⟩
    have a := sq_nn ((u : Int) - x)
    have b := sq_nn ((v : Int) - y)
    have z : (((0 : Nat) : Int)) * ((0 : Nat) : Int) = 0 := by simp
    rw [z] at h3
    have hu : (u : Int) - x = 0 := by
      have : ((u : Int) - x) * ((u : Int) - x) = 0 := by omega
      rcases Int.mul_eq_zero.1 this with h | h <;> exact h
    have hv : (v : Int) - y = 0 := by
      have : ((v : Int) - y) * ((v : Int) - y) = 0 := by omega
      rcases Int.mul_eq_zero.1 this with h | h <;> exact h
    have e1 : u = x := by omega
    have e2 : v = y := by omega
    rw [e1, e2]
  · rintro rfl
    exact ⟨x, y, rfl, hx, hy, by simp⟩

/-- the model's row: those of the columns within reach that lie in the circle -/
def inC (r x y v u : Nat) : Bool := decide (((u : Int) - x) * ((u : Int) - x) + ((v : Int) - y) * ((v : Int) - y) ≤ (r : Int) * r)
theorem range_filter (p : Nat → Bool) : ∀ (n s a b : Nat), (∀ u, s ≤ u → u < s + n → (p u = true ↔ a ≤ u ∧ u < b)) → s ≤ a → b ≤ s + n → (List.range' s n).filter p = List.range' a (b - a) := by
  intro n
  induction n with
  | zero =>
    intro s a b h h1 h2
    have : b - a = 0 := by omega
    rw [this]; rfl
  | succ n ih =>
    intro s a b h h1 h2
    rw [List.range'_succ]
    by_cases hs : s = a ∧ a < b
    · obtain ⟨rfl, hb⟩ := hs
      rw [List.filter_cons_of_pos ((h s (by omega) (by omega)).2 ⟨by omega, hb⟩)]
      rw [ih (s + 1) (s + 1) b (fun u h3 h4 => by rw [h u (by omega) (by omega)]; omega) (by omega) (by omega)]
      have : b - s = (b - (s + 1)) + 1 := by omega
      rw [this, List.range'_succ]
    · have hf : ¬ p s = true := by rw [h s (by omega) (by omega)]; omega
      rw [List.filter_cons_of_neg hf]
      by_cases hab : a < b
      · exact ih (s + 1) a b (fun u h3 h4 => h u (by omega) (by omega)) (by omega) (by omega)
      · have e : b - a = 0 := by omega
        rw [e]
        have := ih (s + 1) (s + 1) (s + 1) (fun u h3 h4 => by rw [h u (by omega) (by omega)]; omega) (by omega) (by omega)
        rw [this, Nat.sub_self]
        rfl
theorem row_filter {W r x y v : Nat} (hr : r ≤ 3) (hx : x < W) (h1 : y - r ≤ v) (h2 : v ≤ y + r) :
    ((List.range' (x - r) (min (x + r) (W - 1) + 1 - (x - r))).filter (inC r x y v)).map (fun u => v * W + u) = List.range' (piece W r x y v).1 (piece W r x y v).2 := by
  rw [range_filter (inC r x y v) _ _ (uf r x y v) (ue W r x y v)]
  · unfold piece
    apply List.ext_getElem?
    intro i
    by_cases hi : i < ue W r x y v - uf r x y v
    · simp [hi]; omega
    · rw [List.getElem?_eq_none (by simp; omega), List.getElem?_eq_none (by simp; omega)]
  · intro u h3 h4
    rw [piece_mem hr h1 h2]
    unfold inC
    rw [decide_eq_true_iff]
    omega
  · have := asd_r hr ((v : Int) - y)
    unfold uf; omega
  · have := asd_r hr ((v : Int) - y)
    unfold ue; omega

/-- how high the columns are -/
def hi (T : List Int) (cs : List Nat) : Int := cs.foldl (fun m i => max m (tp T i)) 0
def lo (T : List Int) (cs : List Nat) : Int := cs.foldl (fun m i => min m (tp T i)) 24
theorem foldmax_le (T : List Int) (cs : List Nat) : ∀ (m z : Int), cs.foldl (fun m i => max m (tp T i)) m ≤ z ↔ m ≤ z ∧ ∀ i ∈ cs, tp T i ≤ z := by
  induction cs with
  | nil => intro m z; simp
  | cons c cs ih =>
    intro m z
    rw [List.foldl_cons, ih]
    simp only [List.mem_cons, forall_eq_or_imp, Int.max_le, and_assoc]
theorem foldmin_ge (T : List Int) (cs : List Nat) : ∀ (m z : Int), z ≤ cs.foldl (fun m i => min m (tp T i)) m ↔ z ≤ m ∧ ∀ i ∈ cs, z ≤ tp T i := by
  induction cs with
  | nil => intro m z; simp
  | cons c cs ih =>
    intro m z
    rw [List.foldl_cons, ih]
    simp only [List.mem_cons, forall_eq_or_imp, Int.le_min, and_assoc]
theorem hi_le {T : List Int} {cs : List Nat} {z : Int} : hi T cs ≤ z ↔ 0 ≤ z ∧ ∀ i ∈ cs, tp T i ≤ z := foldmax_le T cs 0 z
theorem lo_ge {T : List Int} {cs : List Nat} {z : Int} : z ≤ lo T cs ↔ z ≤ 24 ∧ ∀ i ∈ cs, z ≤ tp T i := foldmin_ge T cs 24 z
theorem hi_nn (T : List Int) (cs : List Nat) : 0 ≤ hi T cs := (hi_le.1 (Int.le_refl _)).1
theorem lo_le (T : List Int) (cs : List Nat) : lo T cs ≤ 24 := (lo_ge.1 (Int.le_refl _)).1
theorem hi_mem {T : List Int} {cs : List Nat} {i : Nat} (h : i ∈ cs) : tp T i ≤ hi T cs := (hi_le.1 (Int.le_refl _)).2 i h
theorem lo_mem {T : List Int} {cs : List Nat} {i : Nat} (h : i ∈ cs) : lo T cs ≤ tp T i := (lo_ge.1 (Int.le_refl _)).2 i h
theorem foldmax_from (T : List Int) (cs : List Nat) : ∀ (m m' : Int), cs.foldl (fun m i => max m (tp T i)) (max m m') = max m (cs.foldl (fun m i => max m (tp T i)) m') := by
  induction cs with
  | nil => intro m m'; rfl
  | cons c cs ih =>
    intro m m'
    rw [List.foldl_cons, List.foldl_cons, ← ih]
    congr 1
    omega
theorem foldmin_from (T : List Int) (cs : List Nat) : ∀ (m m' : Int), cs.foldl (fun m i => min m (tp T i)) (min m m') = min m (cs.foldl (fun m i => min m (tp T i)) m') := by
  induction cs with
  | nil => intro m m'; rfl
  | cons c cs ih =>
    intro m m'
    rw [List.foldl_cons, List.foldl_cons, ← ih]
    congr 1
    omega

/-- a field's tops are right -/
def topOk (x : Int) : Bool := decide (0 ≤ x ∧ x ≤ 24)
structure FOk (W H : Int) (T : List Int) : Prop where
  w1 : 1 ≤ W
  w2 : W ≤ 24
  h1 : 1 ≤ H
  h2 : H ≤ 24
  len : (T.length : Int) = W * H
  tops : T.all topOk = true
instance (W H : Int) (T : List Int) : Decidable (FOk W H T) :=
  if h : 1 ≤ W ∧ W ≤ 24 ∧ 1 ≤ H ∧ H ≤ 24 ∧ (T.length : Int) = W * H ∧ T.all topOk = true then .isTrue ⟨h.1, h.2.1, h.2.2.1, h.2.2.2.1, h.2.2.2.2.1, h.2.2.2.2.2⟩
  else .isFalse (fun k => h ⟨k.w1, k.w2, k.h1, k.h2, k.len, k.tops⟩)
def fokB (W H : Int) (T : List Int) : Bool := decide (FOk W H T)
theorem topOk_iff {x : Int} : topOk x = true ↔ 0 ≤ x ∧ x ≤ 24 := by unfold topOk; rw [decide_eq_true_iff]
theorem FOk.top {W H : Int} {T : List Int} (h : FOk W H T) {i : Nat} {x : Int} (hx : T[i]? = some x) : 0 ≤ x ∧ x ≤ 24 :=
  topOk_iff.1 (List.all_eq_true.1 h.tops x (List.mem_of_getElem? hx))
theorem FOk.nat {W H : Int} {T : List Int} (h : FOk W H T) : ∃ a b : Nat, W = (a : Int) ∧ H = (b : Int) ∧ 1 ≤ a ∧ a ≤ 24 ∧ 1 ≤ b ∧ b ≤ 24 ∧ T.length = a * b := by
  obtain ⟨h1, h2, h3, h4, h5, _⟩ := h
  refine ⟨W.toNat, H.toNat, by omega, by omega, by omega, by omega, by omega, by omega, ?_⟩
  have e1 : W = (W.toNat : Int) := by omega
  have e2 : H = (H.toNat : Int) := by omega
  rw [e1, e2, ← Int.natCast_mul] at h5
  exact Int.natCast_inj.1 h5
/-- by how much the one is above the other, together -/
def rsum (A B : List Int) : Nat → Int
  | 0 => 0
  | n + 1 => rsum A B n + max (tp A n - tp B n) 0
theorem rsum_bound {A B : List Int} (ha : ∀ i, 0 ≤ tp A i ∧ tp A i ≤ 24) (hb : ∀ i, 0 ≤ tp B i ∧ tp B i ≤ 24) (n : Nat) : 0 ≤ rsum A B n ∧ rsum A B n ≤ 24 * n := by
  induction n with
  | zero => simp [rsum]
  | succ n ih =>
    have h1 := ha n
    have h2 := hb n
    simp only [rsum]
    omega
theorem FOk.tops_tp {W H : Int} {T : List Int} (h : FOk W H T) (i : Nat) : 0 ≤ tp T i ∧ tp T i ≤ 24 := by
  by_cases hi : i < T.length
  · exact h.top (tp_at hi)
  · unfold tp
    rw [List.getD_eq_getElem?_getD, List.getElem?_eq_none (by omega)]
    simp
theorem FOk.small {W H : Int} {T : List Int} (h : FOk W H T) : T.length ≤ 576 := by
  obtain ⟨a, b, _, _, _, h2, _, h4, h5⟩ := h.nat
  rw [h5]
  exact Nat.mul_le_mul h2 h4
/-- two fields of one W and H -/
structure FPair (W H : Int) (A : List Int) (W' H' : Int) (B : List Int) : Prop where
  a : FOk W H A
  b : FOk W' H' B
  w : W = W'
  h : H = H'
instance (W H : Int) (A : List Int) (W' H' : Int) (B : List Int) : Decidable (FPair W H A W' H' B) :=
  if h : FOk W H A ∧ FOk W' H' B ∧ W = W' ∧ H = H' then .isTrue ⟨h.1, h.2.1, h.2.2.1, h.2.2.2⟩ else .isFalse (fun k => h ⟨k.a, k.b, k.w, k.h⟩)
def pairB (W H : Int) (A : List Int) (W' H' : Int) (B : List Int) : Bool := decide (FPair W H A W' H' B)
theorem pairB_split (W H : Int) (A : List Int) (W' H' : Int) (B : List Int) : pairB W H A W' H' B = (fokB W H A && fokB W' H' B && decide (W = W') && decide (H = H')) := by
  unfold pairB fokB
  by_cases h : FPair W H A W' H' B
  · rw [decide_eq_true h, decide_eq_true h.a, decide_eq_true h.b, decide_eq_true h.w, decide_eq_true h.h]; rfl
  · rw [decide_eq_false h]
    symm
    rw [Bool.eq_false_iff]
    intro hc
    simp only [Bool.and_eq_true, decide_eq_true_eq] at hc
    exact h ⟨hc.1.1.1, hc.1.1.2, hc.1.2, hc.2⟩
theorem FPair.len {W H : Int} {A : List Int} {W' H' : Int} {B : List Int} (h : FPair W H A W' H' B) : A.length = B.length := by
  have h1 := h.a.len
  have h2 := h.b.len
  rw [h.w, h.h] at h1
  omega
def restC (W H : Int) (A : List Int) (W' H' : Int) (B : List Int) : Int := if FPair W H A W' H' B then 0 else 1
def restS (W H : Int) (A : List Int) (W' H' : Int) (B : List Int) : Int := if FPair W H A W' H' B then rsum A B A.length else 0
end Go.Proofs.Ytjhldjojkaphkaa
