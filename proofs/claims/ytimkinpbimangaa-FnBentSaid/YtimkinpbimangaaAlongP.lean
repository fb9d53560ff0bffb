/-
  What two segments of one line have in common, as the program finds it, told by a plain function.
-/
import Derived.Test.YtimkinpbimangaaAlong
import Derived.Test.YtimkinpbimangaaPointsP
namespace Go.Proofs.Ytimkinpbimangaa
open Go.ChangeShapes Go.WideShapes Go.ChangeAt Go.RowKit Go.Shelf
set_option linter.unusedVariables false
set_option linter.unusedSimpArgs false

abbrev sgv (a b : Pt) : Value := .agg #[.int .i64 a.1, .int .i64 a.2, .int .i64 b.1, .int .i64 b.2]
def lo (a b : Pt) : Pt := if ltp b a = true then b else a
def hi (a b : Pt) : Pt := if ltp b a = true then a else b
theorem lo_ok {a b : Pt} (ha : ptOk a = true) (hb : ptOk b = true) : ptOk (lo a b) = true := by unfold lo; split <;> assumption
theorem hi_ok {a b : Pt} (ha : ptOk a = true) (hb : ptOk b = true) : ptOk (hi a b) = true := by unfold hi; split <;> assumption
theorem enters56 : ∀ args w, (callFunc 90 args).run Try.prog w = .ok (.enter 90 args) w := enters_of Try.func90 (by kernel_rfl) rfl
theorem cmp_any (a b : Pt) (w : World) : Calls Try.prog 90 #[ptv a, ptv b] w fun e w' => e = .returned (.int .i64 (cmpP a b)) ∧ Below w.heap.size w w' :=
  (cmp_ints a.1 a.2 b.1 b.2 w).mono fun e w' ⟨he, q, hw⟩ => ⟨he, by subst hw; exact ba (bdN (ba (ba (Below.refl _ _) _) _) q) _⟩
theorem bounds_any (a b : Pt) (w : World) : Calls Try.prog 89 #[ptv a, ptv b, .func (.func 90) #[] #[]] w fun e w' => e = .returned (.tuple #[ptv (lo a b), ptv (hi a b)]) ∧ Below w.heap.size w w' := by
  have hn := cmpP_neg b a
  unfold lo hi
  cases h : ltp b a
  · rw [h] at hn
    exact bounds_ge 90 a.1 a.2 b.1 b.2 (cmpP b a) w enters56 hn (hide fun W => cmp_any b a W)
  · rw [h] at hn
    exact bounds_lt 90 a.1 a.2 b.1 b.2 (cmpP b a) w enters56 hn (hide fun W => cmp_any b a W)
theorem hi_swap (a c : Pt) : hi a c = if ltp a c = true then c else a := by
  unfold hi
  cases h1 : ltp c a <;> cases h2 : ltp a c <;> simp
  · exact (ltp_total _ _ h1 h2)
  · rw [ltp_asymm _ _ h1] at h2; cases h2
theorem along_lh (a b c d : Pt) : along a b c d =
    if hi (lo a b) (lo c d) = lo (hi a b) (hi c d) then [whole (hi (lo a b) (lo c d))] else if ltp (hi (lo a b) (lo c d)) (lo (hi a b) (hi c d)) = true then [whole (hi (lo a b) (lo c d)), whole (lo (hi a b) (hi c d))] else [] := by
  rw [hi_swap]
  rfl
def alongPl (a b c d : Pt) : List Sp := if side a b c ≠ 0 ∨ side c d a ≠ 0 then [] else along a b c d
theorem spot_one (p : Pt) (w : World) (h : ptOk p = true) : Calls Try.prog 75 #[.int .i64 p.1, .int .i64 p.2, .int .i64 1] w fun e w' => e = .returned (.agg #[.int .i64 p.1, .int .i64 p.2, .int .i64 1]) ∧ Below w.heap.size w w' := by
  obtain ⟨h1, h2, h3, h4⟩ := ok_bd h
  have := spotP p.1 p.2 1 w (by omega) (by omega) ⟨by omega, by omega⟩ ⟨by omega, by omega⟩
  rw [red_one] at this
  exact this
theorem sgn_ne {n : Int} (h : n ≠ 0) : (sgn n != 0) = true := by
  unfold sgn
  split
  · rfl
  · split
    · rfl
    · omega

theorem alongP_any (a b c d : Pt) (w : World) (ha : ptOk a = true) (hb : ptOk b = true) (hc : ptOk c = true) (hd : ptOk d = true) :
    Calls Try.prog 74 #[sgv a b, sgv c d] w fun e w' => (∃ v, e = .returned v ∧ IsSpots w.heap.size w' v (alongPl a b c d)) ∧ Below w.heap.size w w' := by
  have T1 := fun W => turn_ints a.1 a.2 b.1 b.2 c.1 c.2 W ha hb hc
  have T2 := fun W => turn_ints c.1 c.2 d.1 d.2 a.1 a.2 W hc hd ha
  rw [show (b.1 - a.1) * (c.2 - a.2) - (b.2 - a.2) * (c.1 - a.1) = side a b c from rfl] at T1
  rw [show (d.1 - c.1) * (a.2 - c.2) - (d.2 - c.2) * (a.1 - c.1) = side c d a from rfl] at T2
  by_cases h1 : side a b c = 0
  · rw [h1] at T1
    by_cases h2 : side c d a = 0
    · rw [h2] at T2
      have e : alongPl a b c d = along a b c d := by unfold alongPl; rw [if_neg (by rintro (h | h); exact h h1; exact h h2)]
      rw [e, along_lh]
      have of := hi_ok (lo_ok ha hb) (lo_ok hc hd)
      have ot := lo_ok (hi_ok ha hb) (hi_ok hc hd)
      have B3 := fun W => bounds_any a b W
      have B4 := fun W => bounds_any c d W
      have B5 := fun W => bounds_any (lo a b) (lo c d) W
      have B6 := fun W => bounds_any (hi a b) (hi c d) W
      have C7 := fun W => cmp_any (hi (lo a b) (lo c d)) (lo (hi a b) (hi c d)) W
      have S1 := fun W => spot_one _ W of
      have S2 := fun W => spot_one _ W ot
      have ec := cmpP_eq (hi (lo a b) (lo c d)) (lo (hi a b) (hi c d))
      have el := ltp_total (hi (lo a b) (lo c d)) (lo (hi a b) (hi c d))
      generalize hi (lo a b) (lo c d) = f at *
      generalize lo (hi a b) (hi c d) = t at *
      have S8 : ∀ x y W, (x = f.1 ∧ y = f.2 ∨ x = t.1 ∧ y = t.2) → Calls Try.prog 75 #[.int .i64 x, .int .i64 y, .int .i64 1] W fun e w' => e = .returned (.agg #[.int .i64 x, .int .i64 y, .int .i64 1]) ∧ Below W.heap.size W w' := by
        rintro x y W (⟨rfl, rfl⟩ | ⟨rfl, rfl⟩)
        · exact S1 W
        · exact S2 W
      by_cases hft : f = t
      · rw [if_pos hft]
        rw [hft, ltp_irrefl] at ec
        have ec' : cmpP f t = 0 := by rw [hft, ec]; rfl
        rw [ec'] at C7
        refine (along_one a.1 a.2 b.1 b.2 c.1 c.2 d.1 d.2 _ _ _ _ _ _ _ _ _ _ f.1 f.2 t.1 t.2 _ _ w (hide T1) (hide T2) (hide B3) (hide B4) (hide B5) (hide B6) (hide C7) (hide S8)).mono ?_
        rintro e w' ⟨⟨k, he, hk, hh⟩, hb2⟩
        exact ⟨⟨_, he, .inr ⟨k, 1, rfl, hk, hh⟩⟩, hb2⟩
      · rw [if_neg hft]
        by_cases hlt : ltp f t = true
        · rw [if_pos hlt]
          rw [if_pos hlt] at ec
          rw [ec] at C7
          refine (along_two a.1 a.2 b.1 b.2 c.1 c.2 d.1 d.2 _ _ _ _ _ _ _ _ _ _ f.1 f.2 t.1 t.2 _ _ w (hide T1) (hide T2) (hide B3) (hide B4) (hide B5) (hide B6) (hide C7) (hide S8)).mono ?_
          rintro e w' ⟨⟨k, he, hk, hh⟩, hb2⟩
          exact ⟨⟨_, he, .inr ⟨k, 2, rfl, hk, hh⟩⟩, hb2⟩
        · rw [if_neg hlt]
          rw [if_neg hlt] at ec
          have hgt : ltp t f = true := by
            cases hq : ltp t f
            · exact absurd (el (by simpa using hlt) hq) hft
            · rfl
          rw [if_pos hgt] at ec
          rw [ec] at C7
          refine (along_none a.1 a.2 b.1 b.2 c.1 c.2 d.1 d.2 _ _ _ _ _ _ _ _ _ _ f.1 f.2 t.1 t.2 _ _ w (hide T1) (hide T2) (hide B3) (hide B4) (hide B5) (hide B6) (hide C7)).mono ?_
          rintro e w' ⟨he, hb2⟩
          exact ⟨⟨_, he, .inl ⟨rfl, rfl⟩⟩, hb2⟩
    · have e : alongPl a b c d = [] := by unfold alongPl; rw [if_pos (.inr h2)]
      rw [e]
      refine (apart2 a.1 a.2 b.1 b.2 c.1 c.2 d.1 d.2 _ w (sgn_ne h2) (hide T1) (hide T2)).mono ?_
      rintro e w' ⟨he, hb2⟩
      exact ⟨⟨_, he, .inl ⟨rfl, rfl⟩⟩, hb2⟩
  · have e : alongPl a b c d = [] := by unfold alongPl; rw [if_pos (.inl h1)]
    rw [e]
    refine (apart1 a.1 a.2 b.1 b.2 c.1 c.2 d.1 d.2 _ w (sgn_ne h1) (hide T1)).mono ?_
    rintro e w' ⟨he, hb2⟩
    exact ⟨⟨_, he, .inl ⟨rfl, rfl⟩⟩, hb2⟩
end Go.Proofs.Ytimkinpbimangaa
