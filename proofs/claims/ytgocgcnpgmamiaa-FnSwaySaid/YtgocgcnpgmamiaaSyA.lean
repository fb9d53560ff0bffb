/-
  What the law of sways wants of plain lists.
-/
import Derived.Test.YtgocgcnpgmamiaaSwOf
import Derived.Test.YtgocgcnpgmamiaaSwLo
import Derived.Test.YtgocgcnpgmamiaaMoD
import Derived.Test.YtgocgcnpgmamiaaAtD
namespace Go.Proofs.Ytgocgcnpgmamiaa
open Go.ChangeShapes Go.WideShapes Go.ChangeAt Go.RowKit
set_option linter.unusedVariables false
set_option linter.unusedSimpArgs false

theorem fv_same {k : FloatKind} {x y : Nat} (h : Fv k x = some y) : x = y := by
  rcases fv_cases k x with e | e
  · rw [e] at h; exact Option.some.inj h
  · rw [e] at h; cases h
theorem sfx_at (L : List Nat) (wb last d i : Nat) (h : i < d) : (sfx L wb last d)[i * 2]? = some (swf L wb last (d - 1 - i)).1 ∧ (sfx L wb last d)[i * 2 + 1]? = some (swf L wb last (d - 1 - i)).2 := by
  induction d generalizing i with
  | zero => omega
  | succ d ih =>
    have e : sfx L wb last (d + 1) = (swf L wb last d).1 :: (swf L wb last d).2 :: sfx L wb last d := rfl
    rw [e]
    cases i with
    | zero => exact ⟨rfl, rfl⟩
    | succ i =>
      obtain ⟨h1, h2⟩ := ih i (by omega)
      rw [show (i + 1) * 2 = i * 2 + 2 by omega, show i * 2 + 2 + 1 = (i * 2 + 1) + 2 by omega]
      rw [show d + 1 - 1 - (i + 1) = d - 1 - i by omega]
      exact ⟨h1, h2⟩
theorem ok_parts {n : Nat} {L : List Nat} {wb : Nat} (h : swOk n L wb = true) : 1 ≤ n ∧ n ≤ 20 ∧ ∀ j, j < n → msOk L j = true := by
  unfold swOk at h
  simp only [Bool.and_eq_true, decide_eq_true_eq] at h
  obtain ⟨⟨⟨h1, h2⟩, _⟩, h3⟩ := h
  exact ⟨h1, h2, fun j hj => List.all_eq_true.1 h3 j (List.mem_range.2 hj)⟩
theorem ok_zero {n : Nat} {L : List Nat} {wb : Nat} (h : swOk n L wb = true) : swC n L 0 = 0 := by
  obtain ⟨h1, h2, h3⟩ := ok_parts h
  have hok : swOk n L 0 = true := by
    unfold swOk at h ⊢
    simp only [Bool.and_eq_true, decide_eq_true_eq] at h ⊢
    exact ⟨⟨h.1.1, by decide⟩, h.2⟩
  refine swC_ok (by omega) hok ?_
  exact tr_zero (drg_tr (n - 1) (fun j hj => h3 j (by omega)) (by omega))
theorem sway_zero {n : Nat} {L T : List Nat} (hm : ∀ j, j < n → msOk L j = true) (hn : n ≤ 20) (hT : T.map (Fv .f64) = sfx L 0 (n - 1) n) {i s : Nat} (hi : i < n) (hs : Sm L (i + 1) s) : ∃ a b, T[i * 2]? = some a ∧ T[i * 2 + 1]? = some b ∧ (∀ w : World, Calls Try.prog 11 #[.float .f64 a, .float .f64 s] w fun e w' => e = .returned (.bool true) ∧ w' = w) ∧ (∀ w : World, Calls Try.prog 11 #[.float .f64 b, .float .f64 0] w fun e w' => e = .returned (.bool true) ∧ w' = w) := by
  have ht := swf_tr (n - 1) (n - 1 - i) (L := L) (fun j hj => hm j (by omega)) (by omega) (by omega)
  have hk := kd_le (i := n - 1) (by omega)
  have ht2 := ht.up (show _ ≤ 6000000 by omega)
  rw [show n - 1 - (n - 1 - i) = i by omega] at ht2
  obtain ⟨a, b, e, c1, c2⟩ := tr_close ht2 hs (fun j hj => hm j (by omega)) (by omega)
  obtain ⟨h1, h2⟩ := sfx_at L 0 (n - 1) n i hi
  rw [e, ← hT, List.getElem?_map] at h1 h2
  obtain ⟨x, e0, f0⟩ := map_some' h1
  obtain ⟨y, e1, f1⟩ := map_some' h2
  have := fv_same f0
  have := fv_same f1
  subst_vars
  exact ⟨_, _, e0, e1, c1, c2⟩
theorem val_5 : val .f64 4617315517961601024 = 5 := by
  have := cval (k := .f64) (x := 4617315517961601024) (s := false) (m := 5629499534213120) (n := 50) rfl
  have e : ((2 ^ 50 : Nat) : Rat) = 1125899906842624 := rfl
  rw [e] at this
  simp only [sg] at this
  grind
theorem num_5 : isNum .f64 4617315517961601024 := ⟨_, _, _, rfl⟩
theorem pulse_ok (a : Nat) (h : a < 41) : ∃ s, floatBits .quo .f64 (floatOfInt .f64 (a : Int)) 4620693217682128896 = some s ∧ isNum .f64 s ∧ 0 ≤ val .f64 s ∧ val .f64 s ≤ 5 := by
  have key : ∀ a : Fin 41, ((floatBits .quo .f64 (floatOfInt .f64 ((a.val : Nat) : Int)) 4620693217682128896).map fun s => fin .f64 (Fv .f64 s) (Fv .f64 0) (Fv .f64 4617315517961601024)) = some true := by decide +kernel
  have := key ⟨a, h⟩
  obtain ⟨s, h1, h2⟩ := map_some' this
  have hb := btw_val num_0 num_5 h2
  rw [val_0, val_5] at hb
  exact ⟨s, h1, num_of_between num_0 num_5 h2, hb.1, hb.2⟩
theorem pulse_7 (a : Nat) (h : a < 61) : ∃ s, floatBits .quo .f64 (floatOfInt .f64 (a : Int)) 4619567317775286272 = some s := by
  have key : ∀ a : Fin 61, (floatBits .quo .f64 (floatOfInt .f64 ((a.val : Nat) : Int)) 4619567317775286272).isSome = true := by decide +kernel
  exact Option.isSome_iff_exists.1 (key ⟨a, h⟩)
theorem ldG_zero {n : Nat} {L P : List Nat} (m : Nat) (h : (ldG n L P m).1 ≠ 0) : (ldG n L P m).2.1 = 0 := by
  induction m with
  | zero => rfl
  | succ m ih =>
    rw [ldG_succ] at h ⊢
    by_cases h0 : (ldG n L P m).1 = 0
    · rw [if_pos h0] at h ⊢
      by_cases hc : swC n L (P.getD m 0) = 0
      · rw [if_pos hc] at h ⊢
        split at h
        · exact absurd rfl h
        · exact absurd h0 h
      · rw [if_neg hc]
    · rw [if_neg h0]
      exact ih h0
theorem ldR_zero {n m : Nat} {L P : List Nat} (h : (ldR n m L P).1 ≠ 0) : (ldR n m L P).2.1 = 0 := by
  unfold ldR at h ⊢
  split
  · rfl
  · rename_i h1
    rw [if_neg h1] at h
    split
    · rename_i h2
      rw [if_pos h2] at h
      exact ldG_zero m h
    · rfl
theorem ldR_ok {n m : Nat} {L P : List Nat} (h : (ldR n m L P).1 = 0) : ldR n m L P = ldG n L P m := by
  unfold ldR at h ⊢
  split
  · rename_i h1; rw [if_pos h1] at h; cases h
  · rename_i h1
    rw [if_neg h1] at h
    split
    · rfl
    · rename_i h2; rw [if_neg h2] at h; cases h
theorem ldG_all {n : Nat} {L P : List Nat} (m : Nat) (h : (ldG n L P m).1 = 0) : ∀ i, i < m → swC n L (P.getD i 0) = 0 := by
  induction m with
  | zero => intro i hi; omega
  | succ m ih =>
    rw [ldG_succ] at h
    by_cases h0 : (ldG n L P m).1 = 0
    · rw [if_pos h0] at h
      by_cases hc : swC n L (P.getD m 0) = 0
      · intro i hi
        by_cases him : i = m
        · rw [him]; exact hc
        · exact ih h0 i (by omega)
      · rw [if_neg hc] at h
        exact absurd h hc
    · rw [if_neg h0] at h
      exact absurd h h0
/-- the first mass by itself -/
theorem first_mass {L : List Nat} {n : Nat} (hl : L.length = n * 3) (hn : 1 ≤ n) : ∃ x0 x1 x2, L[0]? = some x0 ∧ L[1]? = some x1 ∧ L[2]? = some x2 ∧ (msOk L 0 = true → msOk [x0, x1, x2] 0 = true) := by
  obtain ⟨x0, h0⟩ : ∃ x, L[0]? = some x := ⟨_, List.getElem?_eq_getElem (by omega)⟩
  obtain ⟨x1, h1⟩ : ∃ x, L[1]? = some x := ⟨_, List.getElem?_eq_getElem (by omega)⟩
  obtain ⟨x2, h2⟩ : ∃ x, L[2]? = some x := ⟨_, List.getElem?_eq_getElem (by omega)⟩
  refine ⟨x0, x1, x2, h0, h1, h2, fun h => ?_⟩
  rw [msOk_at (i := 0) h0 h1 h2] at h
  rw [msOk_at (L := [x0, x1, x2]) (i := 0) (x0 := x0) (x1 := x1) (x2 := x2) rfl rfl rfl]
  exact h
theorem fls_three {w : World} {g x0 x1 x2 : Nat} (h0 : w.cell? ⟨g, 0, none⟩ = some (.float .f64 x0)) (h1 : w.cell? ⟨g, 1, none⟩ = some (.float .f64 x1)) (h2 : w.cell? ⟨g, 2, none⟩ = some (.float .f64 x2)) : Fls .f64 w (some ⟨g, 0, none⟩) g 0 [x0, x1, x2] := fun _ => by
  refine ⟨rfl, cell_lt h0, ?_⟩
  intro j x hj
  match j, hj with
  | 0, hj => cases hj; exact h0
  | 1, hj => cases hj; exact h1
  | 2, hj => cases hj; exact h2
end Go.Proofs.Ytgocgcnpgmamiaa
