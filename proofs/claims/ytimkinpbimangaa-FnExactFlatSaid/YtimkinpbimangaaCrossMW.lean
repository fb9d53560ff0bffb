/-
  What two segments have in common, as the model finds it: at all right points.
-/
import Derived.Test.YtimkinpbimangaaCrossM
namespace Go.Proofs.Ytimkinpbimangaa
open Go.ChangeShapes Go.WideShapes Go.ChangeAt Go.RowKit
set_option linter.unusedVariables false
set_option linter.unusedSimpArgs false

theorem side_below (a b c : Pt) (ha : ptOk a = true) (hb : ptOk b = true) (hc : ptOk c = true) : Hid (∀ W, Calls Try.prog 76 #[ptv a, ptv b, ptv c] W fun e w' => e = .returned (.int .i64 (side a b c)) ∧ Below W.heap.size W w') :=
  hide fun W => side_any a b c W ha hb hc
theorem side_bd (a b c : Pt) (ha : ptOk a = true) (hb : ptOk b = true) (hc : ptOk c = true) : -80000000000 ≤ side a b c ∧ side a b c ≤ 80000000000 := by
  have h := acr_bd (sub b a) (sub c a) (sub_bd hb ha) (sub_bd hc ha)
  have e : side a b c = acr (sub b a) (sub c a) := by simp only [side, acr, sub]
  rw [e]; exact h
theorem sgn_mul_bd (a b : Int) : -1 ≤ sgn a * sgn b ∧ sgn a * sgn b ≤ 1 := by
  rcases sgn_cases a with ⟨h, _⟩ | ⟨h, _⟩ | ⟨h, _⟩ <;> rcases sgn_cases b with ⟨k, _⟩ | ⟨k, _⟩ | ⟨k, _⟩ <;> rw [h, k] <;> omega
theorem crossM_any (a b c d : Pt) (w : World) (ha : ptOk a = true) (hb : ptOk b = true) (hc : ptOk c = true) (hd : ptOk d = true) :
    Calls Try.prog 61 #[ptv a, ptv b, ptv c, ptv d] w fun e w' => (∃ v, e = .returned v ∧ IsSpots w.heap.size w' v (cross a b c d)) ∧ Below w.heap.size w w' := by
  rw [← cross_eq]
  have H1 := side_below a b c ha hb hc
  have H2 := side_below a b d ha hb hd
  have H3 := side_below c d a hc hd ha
  have H4 := side_below c d b hc hd hb
  have B1 := side_bd a b c ha hb hc
  have B2 := side_bd a b d ha hb hd
  have et := side_t a b c d
  have ev := side_v a b c d
  have hal := along_eq a b c d
  have hm := alongM_any a b c d
  have nab : a = b → side a b c = 0 ∧ side a b d = 0 ∧ side c d a = side c d b := by
    intro h; subst h; exact ⟨by simp only [side]; grind, by simp only [side]; grind, rfl⟩
  have ncd : c = d → side c d a = 0 ∧ side c d b = 0 ∧ side a b c = side a b d := by
    intro h; subst h; exact ⟨by simp only [side]; grind, by simp only [side]; grind, rfl⟩
  unfold crossM
  simp only
  have pc := pt_bd hc
  have pd := pt_bd hd
  generalize side a b c = s at *
  generalize side a b d = t at *
  generalize side c d a = u at *
  generalize side c d b = v at *
  have m1 := sgn_mul_bd s t
  have m2 := sgn_mul_bd u v
  by_cases hz : s = 0 ∧ t = 0 ∧ u = 0 ∧ v = 0
  · rw [if_pos hz, hal hz.1 hz.2.1 hz.2.2.1 hz.2.2.2]
    exact crossM_z a.1 a.2 b.1 b.2 c.1 c.2 d.1 d.2 s t u v w H1 H2 H3 H4 (by simp [hz.1]) (by simp [hz.2.1]) (by simp [hz.2.2.1]) (by simp [hz.2.2.2]) _ (hide fun W => hm W hz.1 hz.2.1 hz.2.2.1 hz.2.2.2)
  rw [if_neg hz]
  have zz : (s == 0) = false ∨ (s == 0) = true ∧ (t == 0) = false ∨ (s == 0) = true ∧ (t == 0) = true ∧ (u == 0) = false ∨ (s == 0) = true ∧ (t == 0) = true ∧ (u == 0) = true ∧ (v == 0) = false := by
    simp only [beq_eq_false_iff_ne, beq_iff_eq]
    omega
  have G1 : ∀ n : Int, Hid (∀ W, Calls Try.prog 78 #[.int .i64 n] W fun e w' => e = .returned (.int .i64 (sgn n)) ∧ w' = W) := fun n => hide fun W => signM_any n W
  by_cases hp : 0 < sgn s * sgn t ∨ 0 < sgn u * sgn v
  · rw [if_pos hp]
    by_cases h1 : 0 < sgn s * sgn t
    · refine (crossM_n1 a.1 a.2 b.1 b.2 c.1 c.2 d.1 d.2 s t u v w H1 H2 H3 H4 zz _ _ _ _ (G1 s) (G1 t) (G1 u) (G1 v) m1.1 m1.2 m2.1 m2.2 (decide_eq_true h1)).mono ?_
      rintro e w' ⟨⟨k, rfl, hk, hc⟩, hb⟩
      exact ⟨⟨_, rfl, .inr ⟨k, 0, rfl, hk, hc⟩⟩, hb⟩
    · refine (crossM_n2 a.1 a.2 b.1 b.2 c.1 c.2 d.1 d.2 s t u v w H1 H2 H3 H4 zz _ _ _ _ (G1 s) (G1 t) (G1 u) (G1 v) m1.1 m1.2 m2.1 m2.2 (decide_eq_false h1) (decide_eq_true (hp.resolve_left h1))).mono ?_
      rintro e w' ⟨⟨k, rfl, hk, hc⟩, hb⟩
      exact ⟨⟨_, rfl, .inr ⟨k, 0, rfl, hk, hc⟩⟩, hb⟩
  rw [if_neg hp]
  have h1 : ¬ 0 < sgn s * sgn t := fun h => hp (.inl h)
  have h2 : ¬ 0 < sgn u * sgn v := fun h => hp (.inr h)
  have h1' := h1
  have h2' := h2
  rw [sgn_mul_pos] at h1' h2'
  have hab : a ≠ b := by
    intro h
    have := nab h
    omega
  have hcd : c ≠ d := by
    intro h
    have := ncd h
    omega
  rw [if_neg hab, if_neg hcd]
  have l1 := mul_bd c.1 (s - t) 100000 160000000000 (by omega) (by omega) (by omega) (by omega)
  have l2 := mul_bd c.2 (s - t) 100000 160000000000 (by omega) (by omega) (by omega) (by omega)
  have l3 := mul_bd (d.1 - c.1) s 200000 80000000000 (by omega) (by omega) (by omega) (by omega)
  have l4 := mul_bd (d.2 - c.2) s 200000 80000000000 (by omega) (by omega) (by omega) (by omega)
  have hn : s - t ≠ 0 := by
    generalize acr (sub b a) (sub d c) = n at *
    omega
  have zx : (s == 0) = false ∨ (s == 0) = true ∧ (t == 0) = false := by
    simp only [beq_eq_false_iff_ne, beq_iff_eq]
    omega
  refine (crossM_x a.1 a.2 b.1 b.2 c.1 c.2 d.1 d.2 s t u v w H1 H2 H3 H4 zx _ _ _ _ (G1 s) (G1 t) (G1 u) (G1 v) m1.1 m1.2 m2.1 m2.2 (decide_eq_false h1) (decide_eq_false h2) (pt_ne hab) (pt_ne hcd) (hide ⟨⟨by omega, by omega⟩, ⟨by omega, by omega⟩, ⟨by omega, by omega⟩, ⟨by omega, by omega⟩, ⟨by omega, by omega⟩, ⟨by omega, by omega⟩, by omega, by omega⟩) _ _ _
    (hide fun W => spotM _ _ _ W hn ⟨by omega, by omega⟩ ⟨by omega, by omega⟩ ⟨by omega, by omega⟩)).mono ?_
  rintro e w' ⟨⟨k, rfl, hk, hc⟩, hb⟩
  exact ⟨⟨_, rfl, .inr ⟨k, 1, rfl, hk, hc⟩⟩, hb⟩
end Go.Proofs.Ytimkinpbimangaa
