/-
  What is shared comes to the total, each part in the proportion, but for less than one; nought stays nought.
-/
import Derived.Test.YtmhdodecofpchaaSoMath
namespace Go.Proofs.Ytmhdodecofpchaa
set_option linter.unusedVariables false
set_option linter.unusedSimpArgs false

theorem sumL_set : ∀ (o : List Int) (i : Nat) (x : Int), i < o.length → sumL (o.set i x) = sumL o - gt o i + x := by
  intro o
  induction o with
  | nil => intro i x h; simp at h
  | cons y o ih =>
    intro i x h
    cases i with
    | zero => rw [List.set_cons_zero, sumL_cons, sumL_cons]; show x + sumL o = y + sumL o - y + x; omega
    | succ i =>
      rw [List.set_cons_succ, sumL_cons, sumL_cons, ih i x (by simpa using h)]
      show y + (sumL o - gt o i + x) = y + sumL o - gt o i + x
      omega
theorem sum_incs : ∀ (X o : List Int) (m : Nat), o.length = m → (∀ x ∈ X, 0 ≤ x ∧ x < (m : Int)) → sumL (X.foldl inc o) = sumL o + (X.length : Int) := by
  intro X
  induction X with
  | nil => intro o m _ _; simp
  | cons x X ih =>
    intro o m hl hX
    have hx := hX x (by simp)
    rw [List.foldl_cons, ih (inc o x) m (by rw [inc_len]; exact hl) (fun y hy => hX y (by simp [hy]))]
    unfold inc
    rw [sumL_set _ _ _ (by omega), List.length_cons]
    omega
theorem incs_at : ∀ (X o : List Int) (m : Nat), o.length = m → X.Nodup → (∀ x ∈ X, 0 ≤ x ∧ x < (m : Int)) → ∀ i, i < m → gt (X.foldl inc o) i = gt o i + (if (i : Int) ∈ X then 1 else 0) := by
  intro X
  induction X with
  | nil => intro o m _ _ _ i hi; simp
  | cons x X ih =>
    intro o m hl hnd hX i hi
    have hx := hX x (by simp)
    obtain ⟨n1, n2⟩ := List.nodup_cons.1 hnd
    rw [List.foldl_cons, ih (inc o x) m (by rw [inc_len]; exact hl) n2 (fun y hy => hX y (by simp [hy])) i hi]
    unfold inc
    rw [gt_set _ _ _ _ (by omega)]
    by_cases h2 : i = x.toNat
    · have hix : (i : Int) = x := by omega
      rw [if_pos h2, hix, if_neg n1, if_pos (by simp), h2]
      omega
    · have hix : (i : Int) ≠ x := by omega
      rw [if_neg h2]
      by_cases h3 : (i : Int) ∈ X
      · rw [if_pos h3, if_pos (by simp [h3])]
      · rw [if_neg h3, if_neg (by rw [List.mem_cons]; rintro (h4 | h4); exact hix h4; exact h3 h4)]
theorem sumL_perm {A B : List Int} (h : A.Perm B) : sumL A = sumL B := by
  induction h with
  | nil => rfl
  | cons x _ ih => rw [sumL_cons, sumL_cons, ih]
  | swap x y l => rw [sumL_cons, sumL_cons, sumL_cons, sumL_cons]; omega
  | trans _ _ ih1 ih2 => exact ih1.trans ih2
theorem map_marks (R : List Int) : (marks 0 R.length).map (remOf R) = R := by
  apply List.ext_getElem?
  intro j
  rw [List.getElem?_map]
  by_cases h : j < R.length
  · rw [marks_at 0 _ j h, Option.map_some, gtk_some h]
    unfold remOf
    congr 2
    omega
  · rw [List.getElem?_eq_none (by rw [marks_len]; omega), List.getElem?_eq_none (by omega)]
    rfl
theorem Ranked.sum {R M : List Int} (h : Ranked R M) : sumL (M.map (remOf R)) = sumL R := by
  rw [sumL_perm (h.2.map (remOf R)), map_marks]
theorem Ranked.nodup {R M : List Int} (h : Ranked R M) : M.Nodup := h.1.imp (fun {a b} hab e => by rw [e] at hab; exact ltR_irrefl _ _ hab)
theorem sumL_zero {L : List Int} (h : ∀ x ∈ L, x = 0) : sumL L = 0 := by
  induction L with
  | nil => rfl
  | cons x L ih => rw [sumL_cons, h x (by simp), ih (fun y hy => h y (by simp [hy]))]; rfl
/-- those that get one more have a remainder -/
theorem chosen_pos {T W : Int} {ws M : List Int} (hW : 0 < W) (hM : Ranked (rs T W ws) M) {lf : Nat} (hlf : W * (lf : Int) = sumL (rs T W ws)) {k : Nat} {x : Int} (hk : k < lf) (hx : M[k]? = some x) : 0 < remOf (rs T W ws) x := by
  have hnn : ∀ y ∈ M, 0 ≤ remOf (rs T W ws) y ∧ remOf (rs T W ws) y < W := by
    intro y hy
    have h1 := hM.mem.1 hy
    have h2 := gtk_some (a := rs T W ws) (i := y.toNat) (by omega)
    exact rs_mem hW _ (List.mem_of_getElem? h2)
  have h0 := hnn x (List.mem_of_getElem? hx)
  rcases (by omega : 0 < remOf (rs T W ws) x ∨ remOf (rs T W ws) x = 0) with h | h
  · exact h
  · exfalso
    have hkl : k < M.length := (List.getElem?_eq_some_iff.1 hx).1
    have hd : ∀ y ∈ M.drop k, remOf (rs T W ws) y = 0 := by
      intro y hy
      have e : M.drop k = x :: M.drop (k + 1) := by rw [List.drop_eq_getElem_cons hkl]; rw [List.getElem?_eq_getElem hkl] at hx; rw [Option.some.inj hx]
      have hs := hM.1
      rw [← List.take_append_drop k M] at hs
      obtain ⟨_, s2, _⟩ := List.pairwise_append.1 hs
      rw [e] at hy s2
      rcases List.mem_cons.1 hy with h1 | h1
      · rw [h1]; exact h
      · have h2 := (List.pairwise_cons.1 s2).1 y h1
        have h3 := hnn y (List.mem_of_mem_drop h1)
        unfold ltR at h2
        omega
    have hs := hM.sum
    rw [← List.take_append_drop k M, List.map_append, sumL_app] at hs
    have e2 : sumL ((M.drop k).map (remOf (rs T W ws))) = 0 := sumL_zero (by
      intro z hz
      obtain ⟨y, hy, rfl⟩ := List.mem_map.1 hz
      exact hd y hy)
    have e1 := sumL_le (L := (M.take k).map (remOf (rs T W ws))) (b := W) (by
      intro z hz
      obtain ⟨y, hy, rfl⟩ := List.mem_map.1 hz
      have := hnn y (List.mem_of_mem_take hy)
      omega)
    rw [List.length_map, List.length_take, Nat.min_eq_left (by omega)] at e1
    rw [e2] at hs
    have e3 : (k : Int) * W + W ≤ W * (lf : Int) := by
      have : W * ((k : Int) + 1) ≤ W * (lf : Int) := Int.mul_le_mul_of_nonneg_left (by omega) (by omega)
      rw [Int.mul_add, Int.mul_one, Int.mul_comm W (k : Int)] at this
      exact this
    omega
/-- the sum, and each part -/
theorem shr_facts {T : Int} {ws M : List Int} (hW : 0 < sumL ws) (hw : ∀ x ∈ ws, 0 ≤ x) (hM : Ranked (rs T (sumL ws) ws) M) :
    sumL (shr T ws M) = T ∧ ∀ i x, ws[i]? = some x → gt (shr T ws M) i * sumL ws - T * x < sumL ws ∧ -(sumL ws) < gt (shr T ws M) i * sumL ws - T * x ∧ (x = 0 → gt (shr T ws M) i = 0) := by
  obtain ⟨b0, b1⟩ := left_bound (T := T) hW
  obtain ⟨lf, hlf⟩ : ∃ lf : Nat, T - sumL (qs T (sumL ws) ws) = (lf : Int) := ⟨(T - sumL (qs T (sumL ws) ws)).toNat, by omega⟩
  have hsh : shr T ws M = (M.take lf).foldl inc (qs T (sumL ws) ws) := by unfold shr; rw [hlf, Int.toNat_natCast]
  have hml : M.length = ws.length := by rw [hM.len, rs_len]
  have hrange : ∀ x ∈ M.take lf, 0 ≤ x ∧ x < (ws.length : Int) := fun x hx => by have := hM.mem.1 (List.mem_of_mem_take hx); rw [rs_len] at this; exact this
  have hsum : sumL ws * (lf : Int) = sumL (rs T (sumL ws) ws) := by
    have h1 := sum_qr T (sumL ws) ws
    rw [← hlf, Int.mul_sub, Int.mul_comm (sumL ws) T]
    omega
  constructor
  · rw [hsh, sum_incs _ _ _ (qs_len _ _ _) hrange, List.length_take, Nat.min_eq_left (by omega)]
    omega
  · intro i x hx
    have hi : i < ws.length := (List.getElem?_eq_some_iff.1 hx).1
    have hg := incs_at (M.take lf) (qs T (sumL ws) ws) ws.length (qs_len _ _ _) (hM.nodup.sublist (List.take_sublist _ _)) hrange i hi
    rw [← hsh] at hg
    have hq : gt (qs T (sumL ws) ws) i = T * x / sumL ws := by
      have h1 := gtk_some (a := qs T (sumL ws) ws) (i := i) (by rw [qs_len]; exact hi)
      rw [qs_at hx] at h1
      exact (Option.some.inj h1).symm
    have hr : remOf (rs T (sumL ws) ws) (i : Int) = T * x % sumL ws := by
      unfold remOf
      rw [Int.toNat_natCast]
      have h1 := gtk_some (a := rs T (sumL ws) ws) (i := i) (by rw [rs_len]; exact hi)
      rw [rs_at hx] at h1
      exact (Option.some.inj h1).symm
    have hdm := Int.mul_ediv_add_emod (T * x) (sumL ws)
    have r0 := Int.emod_nonneg (T * x) (b := sumL ws) (by omega)
    have r1 := Int.emod_lt_of_pos (T * x) (b := sumL ws) hW
    rw [hq] at hg
    have hpos : (i : Int) ∈ M.take lf → 0 < T * x % sumL ws := by
      intro hm
      obtain ⟨k, hk⟩ := List.getElem?_of_mem hm
      have hkl : k < lf := by have := (List.getElem?_eq_some_iff.1 hk).1; rw [List.length_take] at this; omega
      rw [List.getElem?_take, if_pos hkl] at hk
      have := chosen_pos hW hM hsum hkl hk
      rwa [hr] at this
    by_cases hm : (i : Int) ∈ M.take lf
    · rw [if_pos hm] at hg
      have hp := hpos hm
      rw [hg, Int.add_mul, Int.one_mul, Int.mul_comm (T * x / sumL ws)]
      refine ⟨by omega, by omega, ?_⟩
      intro e
      rw [e, Int.mul_zero, Int.zero_emod] at hp
      omega
    · rw [if_neg hm, Int.add_zero] at hg
      rw [hg, Int.mul_comm (T * x / sumL ws)]
      refine ⟨by omega, by omega, ?_⟩
      intro e
      rw [e, Int.mul_zero, Int.zero_ediv]
end Go.Proofs.Ytmhdodecofpchaa
