/-
  When points keep rules; the least points that do; the rules that stand for a move.
-/
import Derived.Test.YtchdmigeopmacaaGlue
namespace Go.Proofs.Ytchdmigeopmacaa
open Go.ChangeShapes Go.WideShapes Go.ChangeAt Go.RowKit
set_option linter.unusedVariables false
set_option linter.unusedSimpArgs false

/-- a rule is kept by points (X and Y by turns) -/
def keepF (P : List Int) (r : Ru) : Bool :=
  if r.1 = 1 then gt P (r.2.1.toNat * 2) == r.2.2.2
  else if r.1 = 2 then gt P (r.2.1.toNat * 2 + 1) == r.2.2.2
  else if r.1 = 3 then gt P (r.2.2.1.toNat * 2) - gt P (r.2.1.toNat * 2) == r.2.2.2
  else if r.1 = 4 then gt P (r.2.2.1.toNat * 2 + 1) - gt P (r.2.1.toNat * 2 + 1) == r.2.2.2
  else if r.1 = 5 then decide (r.2.2.2 ≤ gt P (r.2.2.1.toNat * 2) - gt P (r.2.1.toNat * 2))
  else if r.1 = 6 then decide (r.2.2.2 ≤ gt P (r.2.2.1.toNat * 2 + 1) - gt P (r.2.1.toNat * 2 + 1))
  else if r.1 = 7 then gt P (r.2.1.toNat * 2) == gt P (r.2.2.1.toNat * 2)
  else if r.1 = 8 then gt P (r.2.1.toNat * 2 + 1) == gt P (r.2.2.1.toNat * 2 + 1)
  else gt P (r.2.1.toNat * 2) == gt P (r.2.2.1.toNat * 2) && gt P (r.2.1.toNat * 2 + 1) == gt P (r.2.2.1.toNat * 2 + 1)

/-- the points and the row of all coordinates -/
def PtZ (N : Nat) (P : List Int) (z : Nat → Int) : Prop := z 0 = 0 ∧ ∀ i, i < N → gt P (i * 2) = z (2 * i + 1) ∧ gt P (i * 2 + 1) = z (2 * i + 2)
theorem ok_ab {n : Int} {r : Ru} (h : ruOk n r = true) (n1 : 1 ≤ n) : (0 ≤ r.2.1 ∧ r.2.1 < n) ∧ (0 ≤ r.2.2.1 ∧ r.2.2.1 < n) ∧ -100000 ≤ r.2.2.2 ∧ r.2.2.2 ≤ 100000 ∧ 1 ≤ r.1 ∧ r.1 ≤ 9 := by
  obtain ⟨h1, h2, h3, h4⟩ := of_decide_eq_true h
  refine ⟨h2, ?_, ?_, ?_, h1.1, h1.2⟩
  · split at h3 <;> omega
  · split at h4 <;> omega
  · split at h4 <;> omega
theorem keep_iff {N : Nat} {P : List Int} {z : Nat → Int} {r : Ru} (hr : ruOk (N : Int) r = true) (h : PtZ N P z) : keepF P r = true ↔ ∀ s ∈ spR r, Sat (spE s) z := by
  obtain ⟨k, a, b, m⟩ := r
  obtain ⟨h1, h2, h3, h4⟩ := of_decide_eq_true hr
  simp only at h1 h2 h3 h4
  have ha : a.toNat < N := by omega
  obtain ⟨xa, ya⟩ := h.2 _ ha
  have z0 := h.1
  have hk : k = 1 ∨ k = 2 ∨ k = 3 ∨ k = 4 ∨ k = 5 ∨ k = 6 ∨ k = 7 ∨ k = 8 ∨ k = 9 := by omega
  rcases hk with rfl | rfl | rfl | rfl | rfl | rfl | rfl | rfl | rfl
  · simp [keepF, spR, spE, sat_cons, sat_nil, xa, z0]
    omega
  · simp [keepF, spR, spE, sat_cons, sat_nil, ya, z0]
    omega
  all_goals
    have hb : b.toNat < N := by simp at h3; omega
    obtain ⟨xb, yb⟩ := h.2 _ hb
  · simp [keepF, spR, spE, sat_cons, sat_nil, xa, xb]
    omega
  · simp [keepF, spR, spE, sat_cons, sat_nil, ya, yb]
    omega
  · simp [keepF, spR, spE, sat_cons, sat_nil, xa, xb]
    omega
  · simp [keepF, spR, spE, sat_cons, sat_nil, ya, yb]
    omega
  · simp at h4
    subst h4
    simp [keepF, spR, spE, sat_cons, sat_nil, xa, xb]
    omega
  · simp at h4
    subst h4
    simp [keepF, spR, spE, sat_cons, sat_nil, ya, yb]
    omega
  · simp [keepF, spR, spE, sat_cons, sat_nil, xa, xb, ya, yb]
    omega
theorem keeps_iff {N : Nat} {P : List Int} {z : Nat → Int} {rs : List Ru} (hr : ∀ r ∈ rs, ruOk (N : Int) r = true) (h : PtZ N P z) : rs.all (keepF P) = true ↔ Sat (esP rs) z := by
  unfold esP
  rw [List.all_eq_true, sat_flatMap]
  constructor
  · intro hk s hs
    obtain ⟨r, h1, h2⟩ := List.mem_flatMap.1 hs
    exact (keep_iff (hr r h1) h).1 (hk r h1) s h2
  · intro hk r h1
    exact (keep_iff (hr r h1) h).2 (fun s hs => hk s (List.mem_flatMap.2 ⟨r, h1, hs⟩))
theorem ptsP_gt (A : List Int) {N i : Nat} (h : i < N) : gt (ptsP A N) (i * 2) = gt A (2 * i + 1) ∧ gt (ptsP A N) (i * 2 + 1) = gt A (2 * i + 2) := by
  obtain ⟨h1, h2⟩ := ptsP_at A N i h
  have hg : ∀ (L : List Int) (m : Nat) (x : Int), L[m]? = some x → gt L m = x := fun L m x hx => by unfold gt; rw [List.getD_eq_getElem?_getD, hx]; rfl
  exact ⟨hg _ _ _ h1, hg _ _ _ h2⟩
theorem go_FP {N : Nat} {rs : List Ru} (hr : ∀ r ∈ rs, ruOk (N : Int) r = true) (hk : keptP N rs = true) : FP N rs (gt (goP N rs).1) := by
  unfold keptP at hk
  rw [Bool.and_eq_true] at hk
  have h1 := go_zer (ins_P hr) hk.1
  unfold fineA at hk
  rw [Bool.and_eq_true, decide_eq_true_eq, decide_eq_true_eq] at hk
  exact ⟨h1.1, hk.2.1, hk.2.2⟩
theorem go_least {N : Nat} {rs : List Ru} (hr : ∀ r ∈ rs, ruOk (N : Int) r = true) (hk : keptP N rs = true) {y : Nat → Int} (hy : Feas (2 * N + 1) (esP rs) y) : ∀ i, i < 2 * N + 1 → gt (goP N rs).1 i ≤ y i := by
  unfold keptP at hk
  rw [Bool.and_eq_true] at hk
  exact (go_zer (ins_P hr) hk.1).2 y hy
theorem pt_go {N : Nat} {rs : List Ru} (hr : ∀ r ∈ rs, ruOk (N : Int) r = true) (hk : keptP N rs = true) : PtZ N (ptsP (goP N rs).1 N) (gt (goP N rs).1) := ⟨(go_FP hr hk).2.1, fun i hi => ptsP_gt _ hi⟩
theorem kept_all {N : Nat} {rs : List Ru} (hr : ∀ r ∈ rs, ruOk (N : Int) r = true) (hk : keptP N rs = true) : rs.all (keepF (ptsP (goP N rs).1 N)) = true :=
  (keeps_iff hr (pt_go hr hk)).2 (go_FP hr hk).1.1
theorem pts_bd {N : Nat} {rs : List Ru} (hr : ∀ r ∈ rs, ruOk (N : Int) r = true) (hk : keptP N rs = true) {j : Nat} (hj : j < N * 2) : 0 ≤ gt (ptsP (goP N rs).1 N) j ∧ gt (ptsP (goP N rs).1 N) j ≤ 100000 := by
  have h := go_FP hr hk
  have hi : j / 2 < N := by omega
  obtain ⟨e1, e2⟩ := ptsP_gt (goP N rs).1 hi
  rcases Nat.mod_two_eq_zero_or_one j with h0 | h0
  · have : j = j / 2 * 2 := by omega
    rw [this, e1]
    exact ⟨h.1.2 _ (by omega), h.2.2 _ (by omega)⟩
  · have : j = j / 2 * 2 + 1 := by omega
    rw [this, e2]
    exact ⟨h.1.2 _ (by omega), h.2.2 _ (by omega)⟩
/-- coordinates of points -/
def zOf (Q : List Int) (i : Nat) : Int := if i = 0 then 0 else gt Q (i - 1)
theorem zOf_pt (N : Nat) (Q : List Int) : PtZ N Q (zOf Q) := by
  refine ⟨rfl, fun i _ => ⟨?_, ?_⟩⟩
  · unfold zOf
    rw [if_neg (by omega), show 2 * i + 1 - 1 = i * 2 by omega]
  · unfold zOf
    rw [if_neg (by omega), show 2 * i + 2 - 1 = i * 2 + 1 by omega]
/-- no points that keep all rules are lower anywhere -/
theorem least_all {N : Nat} {rs : List Ru} (hr : ∀ r ∈ rs, ruOk (N : Int) r = true) (hk : keptP N rs = true) {Q : List Int} (hq : rs.all (keepF Q) = true) (h0 : ∀ j, j < N * 2 → 0 ≤ gt Q j) : ∀ j, j < N * 2 → gt (ptsP (goP N rs).1 N) j ≤ gt Q j := by
  have hf : Feas (2 * N + 1) (esP rs) (zOf Q) := ⟨(keeps_iff hr (zOf_pt N Q)).1 hq, fun i hi => by
    unfold zOf
    split
    · exact Int.le_refl _
    · exact h0 _ (by omega)⟩
  have hl := go_least hr hk hf
  intro j hj
  have hi : j / 2 < N := by omega
  obtain ⟨e1, e2⟩ := ptsP_gt (goP N rs).1 hi
  rcases Nat.mod_two_eq_zero_or_one j with h2 | h2
  · have e : j = j / 2 * 2 := by omega
    have := hl (j + 1) (by omega)
    unfold zOf at this
    rw [if_neg (by omega), Nat.add_sub_cancel] at this
    rw [show gt (ptsP (goP N rs).1 N) j = gt (goP N rs).1 (j + 1) by rw [show gt (ptsP (goP N rs).1 N) j = gt (ptsP (goP N rs).1 N) (j / 2 * 2) by rw [← e], e1]; congr 1; omega]
    exact this
  · have e : j = j / 2 * 2 + 1 := by omega
    have := hl (j + 1) (by omega)
    unfold zOf at this
    rw [if_neg (by omega), Nat.add_sub_cancel] at this
    rw [show gt (ptsP (goP N rs).1 N) j = gt (goP N rs).1 (j + 1) by rw [show gt (ptsP (goP N rs).1 N) j = gt (ptsP (goP N rs).1 N) (j / 2 * 2 + 1) by rw [← e], e2]; congr 1; omega]
    exact this
/-- the two rules that put a point somewhere -/
def exR (k : Nat) (x y : Int) : List Ru := [(1, (k : Int), 0, x), (2, (k : Int), 0, y)]
theorem exR_keep {P : List Int} {k : Nat} {x y : Int} : (exR k x y).all (keepF P) = true ↔ gt P (k * 2) = x ∧ gt P (k * 2 + 1) = y := by
  simp [exR, keepF]
theorem exR_ok {N k : Nat} {x y : Int} (hk : k < N) (hx : -100000 ≤ x ∧ x ≤ 100000) (hy : -100000 ≤ y ∧ y ≤ 100000) : ∀ r ∈ exR k x y, ruOk (N : Int) r = true := by
  intro r h
  simp only [exR, List.mem_cons, List.not_mem_nil, or_false] at h
  rcases h with rfl | rfl
  · simp [ruOk]
    omega
  · simp [ruOk]
    omega
theorem list_eq_gt {a b : List Int} (hl : a.length = b.length) (h : ∀ j, j < a.length → gt a j = gt b j) : a = b := by
  apply List.ext_getElem? 
  intro i
  by_cases hi : i < a.length
  · have := h i hi
    rw [gtk_some hi, gtk_some (by omega), this]
  · rw [List.getElem?_eq_none (by omega), List.getElem?_eq_none (by omega)]
/-- a point that is moved to where it stands leaves all where they are -/
theorem move_same {N : Nat} {rs : List Ru} {k : Nat} (hN : 1 ≤ N) (hr : ∀ r ∈ rs, ruOk (N : Int) r = true) (hk : keptP N rs = true) (kN : k < N) :
    (∀ r ∈ rs ++ exR k (gt (ptsP (goP N rs).1 N) (k * 2)) (gt (ptsP (goP N rs).1 N) (k * 2 + 1)), ruOk (N : Int) r = true) ∧ keptP N (rs ++ exR k (gt (ptsP (goP N rs).1 N) (k * 2)) (gt (ptsP (goP N rs).1 N) (k * 2 + 1))) = true ∧
    ptsP (goP N (rs ++ exR k (gt (ptsP (goP N rs).1 N) (k * 2)) (gt (ptsP (goP N rs).1 N) (k * 2 + 1)))).1 N = ptsP (goP N rs).1 N := by
  have bx := pts_bd hr hk (show k * 2 < N * 2 by omega)
  have by_ := pts_bd hr hk (show k * 2 + 1 < N * 2 by omega)
  generalize hP : ptsP (goP N rs).1 N = P at *
  have hr2 : ∀ r ∈ rs ++ exR k (gt P (k * 2)) (gt P (k * 2 + 1)), ruOk (N : Int) r = true := by
    intro r h
    rcases List.mem_append.1 h with h | h
    · exact hr r h
    · exact exR_ok kN (by omega) (by omega) r h
  have hall : (rs ++ exR k (gt P (k * 2)) (gt P (k * 2 + 1))).all (keepF P) = true := by
    rw [List.all_append, Bool.and_eq_true]
    exact ⟨hP ▸ kept_all hr hk, exR_keep.2 ⟨rfl, rfl⟩⟩
  have hz := pt_go hr hk
  rw [hP] at hz
  have hfp := go_FP hr hk
  have hkk : keptP N (rs ++ exR k (gt P (k * 2)) (gt P (k * 2 + 1))) = true := (keptP_iff hr2).2 ⟨_, ⟨(keeps_iff hr2 hz).1 hall, hfp.1.2⟩, hfp.2.1, hfp.2.2⟩
  refine ⟨hr2, hkk, ?_⟩
  have hP0 : ∀ j, j < N * 2 → 0 ≤ gt P j := fun j hj => by rw [← hP]; exact (pts_bd hr hk hj).1
  have l1 := least_all hr2 hkk hall hP0
  have hk2 := kept_all hr2 hkk
  rw [List.all_append, Bool.and_eq_true] at hk2
  have l2 := least_all hr hk hk2.1 (fun j hj => (pts_bd hr2 hkk hj).1)
  rw [hP] at l2
  apply list_eq_gt
  · rw [← hP, ptsP_len, ptsP_len]
  · intro j hj
    rw [ptsP_len] at hj
    have a1 := l1 j hj
    have a2 := l2 j hj
    omega
/-- a point that is moved is there, and all rules are kept -/
theorem move_there {N : Nat} {rs : List Ru} {k : Nat} {x y : Int} (hr : ∀ r ∈ rs ++ exR k x y, ruOk (N : Int) r = true) (hk : keptP N (rs ++ exR k x y) = true) :
    gt (ptsP (goP N (rs ++ exR k x y)).1 N) (k * 2) = x ∧ gt (ptsP (goP N (rs ++ exR k x y)).1 N) (k * 2 + 1) = y ∧ rs.all (keepF (ptsP (goP N (rs ++ exR k x y)).1 N)) = true := by
  have h := kept_all hr hk
  rw [List.all_append, Bool.and_eq_true] at h
  have h2 := exR_keep.1 h.2
  exact ⟨h2.1, h2.2, h.1⟩
end Go.Proofs.Ytchdmigeopmacaa
