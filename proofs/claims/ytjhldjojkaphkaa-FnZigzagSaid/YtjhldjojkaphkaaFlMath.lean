/-
  Floors in lists: the model's and the program's are the same.
-/
import Derived.Test.YtjhldjojkaphkaaMlMath
namespace Go.Proofs.Ytjhldjojkaphkaa
set_option linter.unusedVariables false
set_option linter.unusedSimpArgs false

/-- a field told place by place -/
def byL (F : Nat → Nat → Int) (W n : Nat) : List Int := (List.range n).map fun j => F (j % W) (j / W)
theorem byL_len (F : Nat → Nat → Int) (W n : Nat) : (byL F W n).length = n := by simp [byL]
theorem byL_succ (F : Nat → Nat → Int) (W k : Nat) : byL F W (k + 1) = byL F W k ++ [F (k % W) (k / W)] := by simp [byL, List.range_succ]
theorem byL_tp (F : Nat → Nat → Int) (W : Nat) {n j : Nat} (h : j < n) : tp (byL F W n) j = F (j % W) (j / W) := tp_of (by simp [byL, h])
/-- .. the first places of it, over another one -/
def byP (F : Nat → Nat → Int) (W : Nat) (T : List Int) (k : Nat) : List Int := (List.range T.length).map fun j => if j < k then F (j % W) (j / W) else tp T j
theorem byP_len (F : Nat → Nat → Int) (W : Nat) (T : List Int) (k : Nat) : (byP F W T k).length = T.length := by simp [byP]
theorem byP_at (F : Nat → Nat → Int) (W : Nat) (T : List Int) (k : Nat) {j : Nat} (h : j < T.length) : (byP F W T k)[j]? = some (if j < k then F (j % W) (j / W) else tp T j) := by simp [byP, h]
theorem byP_zero (F : Nat → Nat → Int) (W : Nat) (T : List Int) : byP F W T 0 = T := by
  refine list_ext (byP_len _ _ _ _) fun i hi => ?_
  rw [byP_len] at hi
  rw [tp_of (byP_at F W T 0 hi), if_neg (by omega)]
theorem byP_set (F : Nat → Nat → Int) (W : Nat) (T : List Int) {k : Nat} (h : k < T.length) : (byP F W T k).set k (F (k % W) (k / W)) = byP F W T (k + 1) := by
  refine list_ext (by rw [List.length_set, byP_len, byP_len]) fun i hi => ?_
  rw [List.length_set, byP_len] at hi
  rw [tp_set (by rw [byP_len]; exact h), tp_of (byP_at F W T (k + 1) hi), tp_of (byP_at F W T k hi)]
  by_cases e : k = i
  · subst e
    rw [if_pos rfl, if_pos (by omega)]
  · rw [if_neg e]
    by_cases h2 : i < k
    · rw [if_pos h2, if_pos (by omega)]
    · rw [if_neg h2, if_neg (by omega)]
theorem byP_full (F : Nat → Nat → Int) (W : Nat) (T : List Int) {k : Nat} (h : T.length ≤ k) : byP F W T k = byL F W T.length := by
  refine list_ext (by rw [byP_len, byL_len]) fun i hi => ?_
  rw [byP_len] at hi
  rw [tp_of (byP_at F W T k hi), if_pos (by omega), byL_tp F W hi]
theorem yx {W x : Nat} (hx : x < W) (y : Nat) : (y * W + x) % W = x ∧ (y * W + x) / W = y := by
  constructor
  · rw [Nat.mul_comm, Nat.mul_add_mod, Nat.mod_eq_of_lt hx]
  · rw [Nat.mul_comm, Nat.mul_add_div (by omega), Nat.div_eq_of_lt hx, Nat.add_zero]
/-- the least of what stands and v, at these columns -/
def mins (O : List Int) (cs : List Nat) (v : Int) : List Int := cs.foldl (fun O i => O.set i (min (tp O i) v)) O
theorem mins_snoc (O : List Int) (cs : List Nat) (c : Nat) (v : Int) : mins O (cs ++ [c]) v = (mins O cs v).set c (min (tp (mins O cs v) c) v) := by simp [mins]
theorem mins_len (cs : List Nat) (v : Int) : ∀ O : List Int, (mins O cs v).length = O.length := by
  induction cs with
  | nil => intro O; rfl
  | cons c cs ih => intro O; show (mins (O.set c _) cs v).length = _; rw [ih, List.length_set]
theorem mins_ge (v z : Int) (i : Nat) (cs : List Nat) : ∀ O : List Int, (∀ c ∈ cs, c < O.length) → (z ≤ tp (mins O cs v) i ↔ z ≤ tp O i ∧ (i ∈ cs → z ≤ v)) := by
  induction cs with
  | nil => intro O _; simp [mins]
  | cons c cs ih =>
    intro O h
    show z ≤ tp (mins (O.set c (min (tp O c) v)) cs v) i ↔ _
    rw [ih _ (fun d hd => by rw [List.length_set]; exact h d (by simp [hd])), tp_set (h c (by simp))]
    by_cases e : c = i
    · subst e
      rw [if_pos rfl, Int.le_min]
      simp only [List.mem_cons, true_or, true_implies]
      constructor
      · rintro ⟨⟨h1, h2⟩, _⟩; exact ⟨h1, h2⟩
      · rintro ⟨h1, h2⟩; exact ⟨⟨h1, h2⟩, fun _ => h2⟩
    · rw [if_neg e]
      have e' : ¬ i = c := fun h => e h.symm
      simp [e']
/-- the model's floor behind the first places -/
def flTo (W H r : Nat) (L : List Int) : Nat → List Int
  | 0 => List.replicate (W * H) 24
  | k + 1 => mins (flTo W H r L k) (cols W H r (k % W) (k / W)) (tp L k)
theorem flTo_len (W H r : Nat) (L : List Int) (k : Nat) : (flTo W H r L k).length = W * H := by
  induction k with
  | zero => simp [flTo]
  | succ k ih => simp only [flTo]; rw [mins_len, ih]
theorem flTo_ge {W H r : Nat} (hr : r ≤ 3) (hH : 0 < H) (L : List Int) (z : Int) {i : Nat} (hi : i < W * H) (k : Nat) :
    z ≤ tp (flTo W H r L k) i ↔ z ≤ 24 ∧ ∀ j, j < k → i ∈ cols W H r (j % W) (j / W) → z ≤ tp L j := by
  induction k with
  | zero =>
    have : tp (flTo W H r L 0) i = 24 := tp_of (by simp [flTo, hi])
    rw [this]
    simp
  | succ k ih =>
    simp only [flTo]
    rw [mins_ge _ _ _ _ _ (fun c hc => by rw [flTo_len]; exact cols_lt hr hH hc), ih]
    constructor
    · rintro ⟨⟨h1, h2⟩, h3⟩
      refine ⟨h1, fun j hj hm => ?_⟩
      by_cases e : j = k
      · subst e; exact h3 hm
      · exact h2 j (by omega) hm
    · rintro ⟨h1, h2⟩
      exact ⟨⟨h1, fun j hj hm => h2 j (by omega) hm⟩, fun hm => h2 k (by omega) hm⟩
theorem int_eq_of {a b : Int} (h : ∀ z : Int, z ≤ a ↔ z ≤ b) : a = b := by
  have h1 := (h a).1 (Int.le_refl _)
  have h2 := (h b).2 (Int.le_refl _)
  omega
/-- the lowest places of a tool, its floor -/
def lowL (W H r : Nat) (T : List Int) : List Int := byL (fun x y => hi T (cols W H r x y)) W (W * H)
def flL (W H r : Nat) (T : List Int) : List Int := byL (fun x y => lo (lowL W H r T) (cols W H r x y)) W (W * H)
theorem flTo_eq {W H r : Nat} (hr : r ≤ 3) (hW : 0 < W) (hH : 0 < H) (T : List Int) : flTo W H r (lowL W H r T) (W * H) = flL W H r T := by
  refine list_ext (by rw [flTo_len]; unfold flL; rw [byL_len]) fun i hi => ?_
  rw [flTo_len] at hi
  unfold flL
  rw [byL_tp _ _ hi]
  refine int_eq_of fun z => ?_
  rw [flTo_ge hr hH _ _ hi, lo_ge]
  have hi1 : i % W < W := Nat.mod_lt _ hW
  have hi2 : i / W < H := Nat.div_lt_of_lt_mul hi
  have hi3 : i / W * W + i % W = i := by rw [Nat.mul_comm]; exact Nat.div_add_mod i W
  have sym : ∀ j, j < W * H → (i ∈ cols W H r (j % W) (j / W) ↔ j ∈ cols W H r (i % W) (i / W)) := by
    intro j hj
    have hj1 : j % W < W := Nat.mod_lt _ hW
    have hj2 : j / W < H := Nat.div_lt_of_lt_mul hj
    have hj3 : j / W * W + j % W = j := by rw [Nat.mul_comm]; exact Nat.div_add_mod j W
    have := cols_sym (r := r) hr hj1 hj2 hi1 hi2
    rw [hi3, hj3] at this
    exact this
  constructor
  · rintro ⟨h1, h2⟩
    refine ⟨h1, fun j hj => ?_⟩
    have hjl := cols_lt hr hH hj
    exact h2 j hjl ((sym j hjl).2 hj)
  · rintro ⟨h1, h2⟩
    exact ⟨h1, fun j hj hm => h2 j ((sym j hj).1 hm)⟩
end Go.Proofs.Ytjhldjojkaphkaa
