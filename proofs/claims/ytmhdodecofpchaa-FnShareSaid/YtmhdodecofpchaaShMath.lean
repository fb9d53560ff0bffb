/-
  A total shared by weights: rounded down, what is left to the greatest remainders: by sorted ranks, or by looking for the greatest again and again.
-/
import Derived.Test.YtmhdodecofpchaaStb
import Derived.Test.YtmhdodecofpchaaChMath
import Derived.Test.YtmhdodecofpchaaRowX
namespace Go.Proofs.Ytmhdodecofpchaa
set_option linter.unusedVariables false
set_option linter.unusedSimpArgs false

theorem sumL_cons (x : Int) (L : List Int) : sumL (x :: L) = x + sumL L := by
  have h : ∀ (L : List Int) (a b : Int), L.foldl (· + ·) (a + b) = a + L.foldl (· + ·) b := by
    intro L
    induction L with
    | nil => intro a b; rfl
    | cons y L ih => intro a b; simp only [List.foldl_cons]; rw [Int.add_assoc, ih]
  unfold sumL
  simp only [List.foldl_cons]
  rw [show (0 : Int) + x = x + 0 by omega, h]
theorem sumL_nil : sumL [] = 0 := rfl
theorem sumL_app (A B : List Int) : sumL (A ++ B) = sumL A + sumL B := by
  induction A with
  | nil => simp [sumL_nil]
  | cons x A ih => rw [List.cons_append, sumL_cons, sumL_cons, ih]; omega
theorem sumL_ge {L : List Int} (h : ∀ x ∈ L, 0 ≤ x) : 0 ≤ sumL L := by
  induction L with
  | nil => simp [sumL_nil]
  | cons x L ih => rw [sumL_cons]; have := ih (fun y hy => h y (by simp [hy])); have := h x (by simp); omega
theorem sumL_le {L : List Int} {b : Int} (h : ∀ x ∈ L, x ≤ b) : sumL L ≤ (L.length : Int) * b := by
  induction L with
  | nil => simp [sumL_nil]
  | cons x L ih =>
    rw [sumL_cons, List.length_cons]
    have := ih (fun y hy => h y (by simp [hy]))
    have := h x (by simp)
    rw [show (((L.length + 1 : Nat)) : Int) * b = (L.length : Int) * b + b by rw [Int.natCast_add, Int.add_mul]; simp]
    omega

def qs (T W : Int) (ws : List Int) : List Int := ws.map fun x => T * x / W
def rs (T W : Int) (ws : List Int) : List Int := ws.map fun x => T * x % W
theorem qs_len (T W : Int) (ws : List Int) : (qs T W ws).length = ws.length := by simp [qs]
theorem rs_len (T W : Int) (ws : List Int) : (rs T W ws).length = ws.length := by simp [rs]
theorem qs_at {T W : Int} {ws : List Int} {i : Nat} {x : Int} (h : ws[i]? = some x) : (qs T W ws)[i]? = some (T * x / W) := by simp [qs, h]
theorem rs_at {T W : Int} {ws : List Int} {i : Nat} {x : Int} (h : ws[i]? = some x) : (rs T W ws)[i]? = some (T * x % W) := by simp [rs, h]
theorem sum_qr (T W : Int) (ws : List Int) : W * sumL (qs T W ws) + sumL (rs T W ws) = T * sumL ws := by
  induction ws with
  | nil => simp [qs, rs, sumL_nil]
  | cons x ws ih =>
    show W * sumL (T * x / W :: qs T W ws) + sumL (T * x % W :: rs T W ws) = _
    rw [sumL_cons, sumL_cons, sumL_cons, Int.mul_add, Int.mul_add]
    have := Int.mul_ediv_add_emod (T * x) W
    omega
theorem rs_mem {T W : Int} {ws : List Int} (hW : 0 < W) : ∀ r ∈ rs T W ws, 0 ≤ r ∧ r < W := by
  intro r hr
  obtain ⟨x, _, rfl⟩ := List.mem_map.1 hr
  exact ⟨Int.emod_nonneg _ (by omega), Int.emod_lt_of_pos _ hW⟩
/-- what is left is one for each at most -/
theorem left_bound {T : Int} {ws : List Int} (hW : 0 < sumL ws) : 0 ≤ T - sumL (qs T (sumL ws) ws) ∧ T - sumL (qs T (sumL ws) ws) ≤ (ws.length : Int) := by
  have h1 := sum_qr T (sumL ws) ws
  have h2 := sumL_ge (L := rs T (sumL ws) ws) (fun x hx => (rs_mem hW x hx).1)
  have h3 := sumL_le (L := rs T (sumL ws) ws) (b := sumL ws) (fun x hx => by have := (rs_mem hW x hx).2; omega)
  rw [rs_len] at h3
  have h4 : sumL ws * (T - sumL (qs T (sumL ws) ws)) = sumL (rs T (sumL ws) ws) := by rw [Int.mul_sub, Int.mul_comm (sumL ws) T]; omega
  constructor
  · rcases Int.lt_or_le (T - sumL (qs T (sumL ws) ws)) 0 with h | h
    · have : sumL ws * (T - sumL (qs T (sumL ws) ws)) < 0 := Int.mul_neg_of_pos_of_neg hW h
      omega
    · exact h
  · rcases Int.lt_or_le (ws.length : Int) (T - sumL (qs T (sumL ws) ws)) with h | h
    · have h5 := Int.mul_lt_mul_of_pos_left h hW
      rw [h4, Int.mul_comm] at h5
      omega
    · exact h
theorem q_bound {T W x : Int} (hT : 0 ≤ T ∧ T ≤ 100000) (hx : 0 ≤ x ∧ x ≤ 100000) (hW : 0 < W) : 0 ≤ T * x ∧ T * x ≤ 10000000000 ∧ 0 ≤ T * x / W ∧ T * x / W ≤ 10000000000 := by
  have h0 : 0 ≤ T * x := Int.mul_nonneg hT.1 hx.1
  have h1 : T * x ≤ 10000000000 := by
    have a := Int.mul_le_mul_of_nonneg_right hT.2 hx.1
    have b := Int.mul_le_mul_of_nonneg_left hx.2 (show (0 : Int) ≤ 100000 by omega)
    omega
  refine ⟨h0, h1, Int.ediv_nonneg h0 (by omega), ?_⟩
  exact Int.le_trans (Int.ediv_le_self _ h0) h1

def remOf (R : List Int) (i : Int) : Int := gt R i.toNat
def inc (o : List Int) (i : Int) : List Int := o.set i.toNat (gt o i.toNat + 1)
def clr (o : List Int) (i : Int) : List Int := o.set i.toNat (-1)
theorem inc_len (o : List Int) (i : Int) : (inc o i).length = o.length := by simp [inc]
theorem clr_len (o : List Int) (i : Int) : (clr o i).length = o.length := by simp [clr]
theorem incs_len (X : List Int) (o : List Int) : (X.foldl inc o).length = o.length := by
  induction X generalizing o with
  | nil => rfl
  | cons x X ih => rw [List.foldl_cons, ih, inc_len]
theorem clrs_len (X : List Int) (o : List Int) : (X.foldl clr o).length = o.length := by
  induction X generalizing o with
  | nil => rfl
  | cons x X ih => rw [List.foldl_cons, ih, clr_len]
theorem gt_set (o : List Int) (i j : Nat) (x : Int) (hi : i < o.length) : gt (o.set i x) j = if j = i then x else gt o j := by
  unfold gt
  rw [List.getD_eq_getElem?_getD, List.getD_eq_getElem?_getD, List.getElem?_set]
  by_cases h : i = j
  · subst h; rw [if_pos rfl, if_pos hi, if_pos rfl]; rfl
  · rw [if_neg h, if_neg (fun e => h e.symm)]
/-- all increments so far -/
theorem incs_bound {B : Int} : ∀ (X : List Int) (o : List Int) (m : Nat), o.length = m → (∀ x ∈ X, 0 ≤ x ∧ x < (m : Int)) → (∀ i, i < m → 0 ≤ gt o i ∧ gt o i ≤ B) → ∀ i, i < m → 0 ≤ gt (X.foldl inc o) i ∧ gt (X.foldl inc o) i ≤ B + (X.length : Int) := by
  intro X
  induction X generalizing B with
  | nil => intro o m _ _ h i hi; have := h i hi; simp only [List.foldl_nil, List.length_nil]; omega
  | cons x X ih =>
    intro o m hl hX h i hi
    have hx := hX x (by simp)
    have := ih (B := B + 1) (inc o x) m (by rw [inc_len]; exact hl) (fun y hy => hX y (by simp [hy])) (by
      intro j hj
      unfold inc
      rw [gt_set _ _ _ _ (by omega)]
      have := h j hj
      have := h x.toNat (by omega)
      split <;> omega) i hi
    rw [List.foldl_cons, List.length_cons]
    omega
theorem clrs_at : ∀ (X : List Int) (o : List Int) (m : Nat), o.length = m → (∀ x ∈ X, 0 ≤ x ∧ x < (m : Int)) → ∀ i, i < m → gt (X.foldl clr o) i = if (i : Int) ∈ X then -1 else gt o i := by
  intro X
  induction X with
  | nil => intro o m _ _ i hi; simp
  | cons x X ih =>
    intro o m hl hX i hi
    have hx := hX x (by simp)
    rw [List.foldl_cons, ih (clr o x) m (by rw [clr_len]; exact hl) (fun y hy => hX y (by simp [hy])) i hi]
    unfold clr
    rw [gt_set _ _ _ _ (by omega)]
    by_cases h1 : (i : Int) ∈ X
    · rw [if_pos h1, if_pos (by simp [h1])]
    · rw [if_neg h1]
      by_cases h2 : i = x.toNat
      · rw [if_pos h2, if_pos (by rw [List.mem_cons]; left; omega)]
      · rw [if_neg h2, if_neg (by rw [List.mem_cons]; rintro (h3 | h3); exact h2 (by omega); exact h1 h3)]
/-- sorted ranks of m remainders -/
def Ranked (R : List Int) (M : List Int) : Prop := M.Pairwise (ltR (remOf R)) ∧ M.Perm (marks 0 R.length)
theorem marks_mem {n : Nat} {x : Int} : x ∈ marks 0 n ↔ 0 ≤ x ∧ x < (n : Int) := by
  unfold marks
  rw [List.mem_map]
  constructor
  · rintro ⟨j, hj, rfl⟩
    have := List.mem_range.1 hj
    omega
  · rintro ⟨h0, h1⟩
    exact ⟨x.toNat, List.mem_range.2 (by omega), by omega⟩
theorem marks_lt (n : Nat) : (marks 0 n).Pairwise (· < ·) := by
  unfold marks
  rw [List.pairwise_map]
  exact List.pairwise_lt_range.imp (fun h => by omega)
theorem Ranked.mem {R M : List Int} (h : Ranked R M) {x : Int} : x ∈ M ↔ 0 ≤ x ∧ x < (R.length : Int) := (h.2.mem_iff).trans marks_mem
theorem Ranked.len {R M : List Int} (h : Ranked R M) : M.length = R.length := by rw [h.2.length_eq, marks_len]
/-- the first of the greatest -/
structure First (R : List Int) (m b : Nat) : Prop where
  lt : b < m
  le : ∀ i, i < m → gt R i ≤ gt R b
  ls : ∀ i, i < b → gt R i < gt R b
theorem First.one {R : List Int} {m a b : Nat} (h : First R m a) (k : First R m b) : a = b := by
  rcases Nat.lt_trichotomy a b with h1 | h1 | h1
  · have := k.ls a h1; have := h.le b k.lt; omega
  · exact h1
  · have := h.ls b h1; have := k.le a h.lt; omega
/-- the rank that comes next is the first of the greatest that are left -/
theorem Ranked.next {R M : List Int} (h : Ranked R M) (h0 : ∀ i, i < R.length → 0 ≤ gt R i) {k : Nat} {x : Int} (hx : M[k]? = some x) : First ((M.take k).foldl clr R) R.length x.toNat := by
  have hk : k < M.length := (List.getElem?_eq_some_iff.1 hx).1
  have hxm := h.mem.1 (List.mem_of_getElem? hx)
  have hM : M = M.take k ++ (x :: M.drop (k + 1)) := by
    have e : M.drop k = x :: M.drop (k + 1) := by rw [List.drop_eq_getElem_cons hk]; rw [List.getElem?_eq_getElem hk] at hx; rw [Option.some.inj hx]
    rw [← e]
    exact (List.take_append_drop k M).symm
  have hs := h.1
  rw [hM] at hs
  obtain ⟨s1, s2, s3⟩ := List.pairwise_append.1 hs
  have s4 := (List.pairwise_cons.1 s2).1
  have hrange : ∀ y ∈ M.take k, 0 ≤ y ∧ y < (R.length : Int) := fun y hy => h.mem.1 (List.mem_of_mem_take hy)
  have hat := clrs_at (M.take k) R R.length rfl hrange
  have hxn : ((x.toNat : Nat) : Int) = x := by omega
  have hxk : x ∉ M.take k := by
    intro hc
    exact ltR_irrefl (remOf R) x (s3 x hc x (by simp))
  have hbx : gt ((M.take k).foldl clr R) x.toNat = gt R x.toNat := by rw [hat x.toNat (by omega), if_neg (by rw [hxn]; exact hxk)]
  have hcase : ∀ i, i < R.length → gt ((M.take k).foldl clr R) i = -1 ∨ (i : Int) = x ∨ (gt ((M.take k).foldl clr R) i = gt R i ∧ ltR (remOf R) x (i : Int)) := by
    intro i hi
    rw [hat i hi]
    by_cases h1 : (i : Int) ∈ M.take k
    · rw [if_pos h1]; exact .inl rfl
    · rw [if_neg h1]
      have hm : (i : Int) ∈ M := h.mem.2 (by omega)
      rw [hM] at hm
      rcases List.mem_append.1 hm with h2 | h2
      · exact absurd h2 h1
      · rcases List.mem_cons.1 h2 with h3 | h3
        · exact .inr (.inl h3)
        · exact .inr (.inr ⟨rfl, s4 _ h3⟩)
  have hx0 := h0 x.toNat (by omega)
  refine ⟨by omega, ?_, ?_⟩
  · intro i hi
    rw [hbx]
    rcases hcase i hi with h1 | h1 | ⟨h1, h2⟩
    · omega
    · rw [show i = x.toNat by omega, hbx]; omega
    · rw [h1]
      unfold ltR remOf at h2
      rw [Int.toNat_natCast] at h2
      omega
  · intro i hi
    rw [hbx]
    rcases hcase i (by omega) with h1 | h1 | ⟨h1, h2⟩
    · omega
    · omega
    · rw [h1]
      unfold ltR remOf at h2
      rw [Int.toNat_natCast] at h2
      omega
/-- the shares -/
def shr (T : Int) (ws M : List Int) : List Int := (M.take (T - sumL (qs T (sumL ws) ws)).toNat).foldl inc (qs T (sumL ws) ws)
theorem shr_len (T : Int) (ws M : List Int) : (shr T ws M).length = ws.length := by unfold shr; rw [incs_len, qs_len]
theorem take_succ_foldl (f : List Int → Int → List Int) (o M : List Int) (k : Nat) (x : Int) (h : M[k]? = some x) : (M.take (k + 1)).foldl f o = f ((M.take k).foldl f o) x := by
  rw [List.take_add_one, h, List.foldl_append]; rfl
theorem ranked_one {R M N : List Int} (h : Ranked R M) (k : Ranked R N) : M = N := sorted_unique M N h.1 k.1 (h.2.trans k.2.symm)
end Go.Proofs.Ytmhdodecofpchaa
