/-
  The program's small questions: whether a shaft is free, whether a hole and a shaft fit.
-/
import Derived.Test.YtmoobfbjehgdnaaMtBy
import Derived.Test.YtmoobfbjehgdnaaMtCode
namespace Go.Proofs.Ytmoobfbjehgdnaa
open Go.ChangeShapes Go.WideShapes Go.ChangeAt Go.RowKit Go.Shelf
set_option linter.unusedVariables false
set_option linter.unusedSimpArgs false

theorem enters66 : ∀ args w, (callFunc 34 args).run Try.prog w = .ok (.enter 34 args) w := enters_of Try.func34 (by kernel_rfl) rfl
theorem free_any (tb gu m b : Nat) (x : Bool) (w : World) (hb : b < m) (h1 : w.cell? ⟨tb, 0, none⟩ = some (.slice (some ⟨gu, 0, none⟩) m m)) (h2 : w.cell? ⟨gu, b, none⟩ = some (.bool x)) :
    Calls Try.prog 34 #[.int .i64 (b : Int), .pointer (some ⟨tb, 0, none⟩)] w fun e w' => e = .returned (.bool (!x)) ∧ w' = w := by
  have b1 : (b : Int) < (m : Int) := by omega
  have b0 : (0 : Int) ≤ (b : Int) := Int.natCast_nonneg _
  go_enter Try.func34, Try.ntmps34
  go_wp2
  go_ret
  exact ⟨rfl, rfl⟩
set_option maxHeartbeats 2000000 in
theorem fit_any (p po n cu q qo m cv a b : Nat) (lo hi x y : Int) (w : World) (ha : a < n) (hb : b < m) (h1 : w.cell? ⟨p, po + a, none⟩ = some (.int .i64 x)) (h2 : w.cell? ⟨q, qo + b, none⟩ = some (.int .i64 y)) (hx : 0 ≤ x ∧ x ≤ 100000) (hy : 0 ≤ y ∧ y ≤ 100000) :
    Calls Try.prog 36 #[.agg #[.slice (some ⟨p, po, none⟩) n cu, .slice (some ⟨q, qo, none⟩) m cv, .int .i64 lo, .int .i64 hi], .int .i64 (a : Int), .int .i64 (b : Int)] w fun e w' => e = .returned (.bool (btw (x - y) lo hi)) ∧ Below w.heap.size w w' := by
  have HC := hide (fun W => btw_any (x - y) lo hi W)
  have a1 : (a : Int) < (n : Int) := by omega
  have a0 : (0 : Int) ≤ (a : Int) := Int.natCast_nonneg _
  have b1 : (b : Int) < (m : Int) := by omega
  have b0 : (0 : Int) ≤ (b : Int) := Int.natCast_nonneg _
  obtain ⟨x0, x1⟩ := hx
  obtain ⟨y0, y1⟩ := hy
  have e1 : IntKind.i64.wrap (x - y) = x - y := by rw [IntKind.wrap_i64]; omega
  have e2 : wrap64 (x - y) = x - y := by unfold wrap64; omega
  generalize btw (x - y) lo hi = z at *
  have k1 := ka (o := .cells #[.slice (some ⟨p, po, none⟩) n cu, .slice (some ⟨q, qo, none⟩) m cv, .int .i64 lo, .int .i64 hi] 46) h1
  have k2 := ka (o := .cells #[.slice (some ⟨p, po, none⟩) n cu, .slice (some ⟨q, qo, none⟩) m cv, .int .i64 lo, .int .i64 hi] 46) h2
  have c0 : (w.alloc (.cells #[.slice (some ⟨p, po, none⟩) n cu, .slice (some ⟨q, qo, none⟩) m cv, .int .i64 lo, .int .i64 hi] 46)).cell? ⟨w.heap.size, 0, none⟩ = some (.slice (some ⟨p, po, none⟩) n cu) := by simp [go_sem]
  have c1 : (w.alloc (.cells #[.slice (some ⟨p, po, none⟩) n cu, .slice (some ⟨q, qo, none⟩) m cv, .int .i64 lo, .int .i64 hi] 46)).cell? ⟨w.heap.size, 1, none⟩ = some (.slice (some ⟨q, qo, none⟩) m cv) := by simp [go_sem]
  have c2 : (w.alloc (.cells #[.slice (some ⟨p, po, none⟩) n cu, .slice (some ⟨q, qo, none⟩) m cv, .int .i64 lo, .int .i64 hi] 46)).cell? ⟨w.heap.size, 2, none⟩ = some (.int .i64 lo) := by simp [go_sem]
  have c3 : (w.alloc (.cells #[.slice (some ⟨p, po, none⟩) n cu, .slice (some ⟨q, qo, none⟩) m cv, .int .i64 lo, .int .i64 hi] 46)).cell? ⟨w.heap.size, 3, none⟩ = some (.int .i64 hi) := by simp [go_sem]
  have HBL := hide (ba (Below.refl w.heap.size w) (.cells #[.slice (some ⟨p, po, none⟩) n cu, .slice (some ⟨q, qo, none⟩) m cv, .int .i64 lo, .int .i64 hi] 46))
  clear h1 h2
  go_enter Try.func36, Try.ntmps36
  go_wp2_with fail
  generalize w.alloc (.cells #[.slice (some ⟨p, po, none⟩) n cu, .slice (some ⟨q, qo, none⟩) m cv, .int .i64 lo, .int .i64 hi] 46) = WA at *
  generalize w.heap.size = R at c0 c1 c2 c3 ⊢
  go_region_held3 (fun wx => wx.cell? ⟨R, 0, none⟩ = some (.slice (some ⟨p, po, none⟩) n cu) ∧ wx.cell? ⟨R, 1, none⟩ = some (.slice (some ⟨q, qo, none⟩) m cv) ∧ wx.cell? ⟨R, 2, none⟩ = some (.int .i64 lo) ∧ wx.cell? ⟨R, 3, none⟩ = some (.int .i64 hi) ∧ wx.cell? ⟨p, po + a, none⟩ = some (.int .i64 x) ∧ wx.cell? ⟨q, qo + b, none⟩ = some (.int .i64 y))
    (simp (maxDischargeDepth := 12) [go_sem, le1, lt1, *])
    (first
    | (go_at_call 33; (first | refine (unhide HC _).mono ?_ | (rw [e1]; refine (unhide HC _).mono ?_)); rintro e w' ⟨rfl, rfl⟩))
  all_goals
    go_wp2_with fail
    go_ret
    exact ⟨rfl, by repeat (first | exact unhide HBL | refine Below.drew ?_)⟩
theorem rows_ne {W : World} {B B' n n' k k' t t' : Nat} {v v' : Value} {L L' : List Int} (h : Row W B t k v n L) (h' : Row W B' t' k' v' n' L') (ht : t ≠ t') : ∀ b, v.ownBlock = some b → v'.ownBlock ≠ some b := by
  intro b hb hb'
  rcases h.2 with ⟨rfl, _⟩ | ⟨g, cap, cur, rfl, _, hh, _⟩
  · cases hb
  · rcases h'.2 with ⟨rfl, _⟩ | ⟨g', cap', cur', rfl, _, hh', _⟩
    · cases hb'
    · simp only [Value.ownBlock, Option.some.injEq] at hb hb'
      subst hb
      subst hb'
      rw [hh] at hh'
      cases hh'
      exact ht rfl
end Go.Proofs.Ytmoobfbjehgdnaa
