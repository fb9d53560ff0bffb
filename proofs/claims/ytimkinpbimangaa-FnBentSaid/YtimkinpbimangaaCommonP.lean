/-
  What two segments have in common, as the program finds it: at all right points.
-/
import Derived.Test.YtimkinpbimangaaCommon
namespace Go.Proofs.Ytimkinpbimangaa
open Go.ChangeShapes Go.WideShapes Go.ChangeAt Go.RowKit
set_option linter.unusedVariables false
set_option linter.unusedSimpArgs false

theorem acr_below (a b : Pt) (w : World) (ha : (-200000 ≤ a.1 ∧ a.1 ≤ 200000) ∧ -200000 ≤ a.2 ∧ a.2 ≤ 200000) (hb : (-200000 ≤ b.1 ∧ b.1 ≤ 200000) ∧ -200000 ≤ b.2 ∧ b.2 ≤ 200000) :
    Calls Try.prog 66 #[ptv a, ptv b] w fun e w' => e = .returned (.int .i64 (acr a b)) ∧ Below w.heap.size w w' :=
  (acr_exact a.1 a.2 b.1 b.2 w ha hb).mono fun e w' ⟨he, hw⟩ => ⟨he, by subst hw; exact ba (ba (Below.refl _ _) _) _⟩
theorem acr_bd (a b : Pt) (ha : (-200000 ≤ a.1 ∧ a.1 ≤ 200000) ∧ -200000 ≤ a.2 ∧ a.2 ≤ 200000) (hb : (-200000 ≤ b.1 ∧ b.1 ≤ 200000) ∧ -200000 ≤ b.2 ∧ b.2 ≤ 200000) : -80000000000 ≤ acr a b ∧ acr a b ≤ 80000000000 := by
  obtain ⟨⟨p1, p2⟩, p3, p4⟩ := ha
  obtain ⟨⟨q1, q2⟩, q3, q4⟩ := hb
  have m1 := mul_bd a.1 b.2 200000 200000 (by omega) (by omega) (by omega) (by omega)
  have m2 := mul_bd a.2 b.1 200000 200000 (by omega) (by omega) (by omega) (by omega)
  unfold acr
  omega
theorem sgn_cases (n : Int) : sgn n = 1 ∧ 0 < n ∨ sgn n = -1 ∧ n < 0 ∨ sgn n = 0 ∧ n = 0 := by
  unfold sgn
  split
  · exact .inl ⟨rfl, by assumption⟩
  · split
    · exact .inr (.inl ⟨rfl, by assumption⟩)
    · exact .inr (.inr ⟨rfl, by omega⟩)
theorem mul_sgn_bd (x n : Int) (h : -80000000000 ≤ x ∧ x ≤ 80000000000) : -80000000000 ≤ x * sgn n ∧ x * sgn n ≤ 80000000000 := by
  rcases sgn_cases n with ⟨h1, _⟩ | ⟨h1, _⟩ | ⟨h1, _⟩ <;> rw [h1] <;> omega
theorem pt_bd {p : Pt} (h : ptOk p = true) : -100000 ≤ p.1 ∧ p.1 ≤ 100000 ∧ -100000 ≤ p.2 ∧ p.2 ≤ 100000 := ok_bd h
theorem sub_bd {p q : Pt} (hp : ptOk p = true) (hq : ptOk q = true) : (-200000 ≤ (sub p q).1 ∧ (sub p q).1 ≤ 200000) ∧ -200000 ≤ (sub p q).2 ∧ (sub p q).2 ≤ 200000 := dif_bd hp hq

theorem commonP_any (a b c d : Pt) (w : World) (ha : ptOk a = true) (hb : ptOk b = true) (hc : ptOk c = true) (hd : ptOk d = true) :
    Calls Try.prog 60 #[sgv a b, sgv c d] w fun e w' => (∃ v, e = .returned v ∧ IsSpots w.heap.size w' v (cross a b c d)) ∧ Below w.heap.size w w' := by
  have be := sub_bd hb ha
  have bf := sub_bd hd hc
  have bg := sub_bd hc ha
  have HW := fun W => acr_below (sub b a) (sub d c) W be bf
  have HU := fun W => acr_below (sub c a) (sub d c) W bg bf
  have HV := fun W => acr_below (sub c a) (sub b a) W bg be
  have mW := acr_bd _ _ be bf
  have mU := acr_bd _ _ bg bf
  have mV := acr_bd _ _ bg be
  refine common_core a.1 a.2 b.1 b.2 c.1 c.2 d.1 d.2 (sub b a).1 (sub b a).2 (sub d c).1 (sub d c).2 (sub c a).1 (sub c a).2 (acr (sub b a) (sub d c)) w (hide ha) (hide hb) (hide hc) (hide hd) (hide rfl) (hide rfl) (hide rfl) (hide rfl) (hide rfl) (hide rfl) (hide HW)
    (cross a b c d) (sgn (acr (sub b a) (sub d c))) (acr (sub c a) (sub d c)) (acr (sub c a) (sub b a)) (hide fun W => sign_any _ W) (hide HU) (hide HV) (hide ⟨mul_sgn_bd _ _ mW, mul_sgn_bd _ _ mU, mul_sgn_bd _ _ mV⟩) (hide ?_)
  unfold cross
  have e1 : (sub b a).1 = b.1 - a.1 := rfl
  have e2 : (sub b a).2 = b.2 - a.2 := rfl
  rw [e1, e2] at be ⊢
  have ba1 := pt_bd ha
  have hal := fun W => alongP_any a b c d W ha hb hc hd
  unfold alongPl at hal
  clear HW HU HV bf bg e1 e2
  generalize acr (sub b a) (sub d c) = n at *
  generalize acr (sub c a) (sub d c) = u at *
  generalize acr (sub c a) (sub b a) = v at *
  simp only
  by_cases h0 : n = 0
  · rw [if_pos h0]
    exact .inl ⟨by simp [h0], hal⟩
  · rw [if_neg h0]
    have hb0 : (n == 0) = false := by simp [h0]
    by_cases h1 : 0 ≤ u * sgn n ∧ u * sgn n ≤ n * sgn n
    · by_cases h2 : 0 ≤ v * sgn n ∧ v * sgn n ≤ n * sgn n
      · rw [if_pos ⟨h1, h2⟩]
        have hs : 0 < n * sgn n ∧ n * sgn n ≤ 80000000000 := by
          rcases sgn_cases n with ⟨k, _⟩ | ⟨k, _⟩ | ⟨k, _⟩ <;> rw [k] <;> omega
        generalize n * sgn n = N at *
        generalize u * sgn n = U at *
        have l1 := mul_bd a.1 N 100000 80000000000 (by omega) (by omega) (by omega) (by omega)
        have l2 := mul_bd a.2 N 100000 80000000000 (by omega) (by omega) (by omega) (by omega)
        have l3 := mul_bd (b.1 - a.1) U 200000 80000000000 (by omega) (by omega) (by omega) (by omega)
        have l4 := mul_bd (b.2 - a.2) U 200000 80000000000 (by omega) (by omega) (by omega) (by omega)
        refine .inr (.inr (.inr ⟨hb0, by simp [h1], by simp [h2], ⟨⟨by omega, by omega⟩, ⟨by omega, by omega⟩, ⟨by omega, by omega⟩, by omega, by omega⟩, _, _, _, rfl, fun W => ?_⟩))
        exact spotP _ _ _ W (by omega) (by omega) ⟨by omega, by omega⟩ ⟨by omega, by omega⟩
      · rw [if_neg (fun h => h2 h.2)]
        exact .inr (.inr (.inl ⟨hb0, by simp [h1], by simp only [Bool.and_eq_false_iff, decide_eq_false_iff_not]; omega, rfl⟩))
    · rw [if_neg (fun h => h1 h.1)]
      exact .inr (.inl ⟨hb0, by simp only [Bool.and_eq_false_iff, decide_eq_false_iff_not]; omega, rfl⟩)
end Go.Proofs.Ytimkinpbimangaa
